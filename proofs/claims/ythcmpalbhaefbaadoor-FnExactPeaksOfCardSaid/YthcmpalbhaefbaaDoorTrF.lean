/-
  The steps from a cell as an iterator's contract; whether cells are cells of a grid. The conditions: as of TrE.
-/
import Derived.Test.YthcmpalbhaefbaaDoorTrE
namespace Go.Proofs.YthcmpalbhaefbaaDoor
open Go.RowKit Go.Shelf Go.Deep
set_option linter.unusedVariables false
set_option maxRecDepth 100000
theorem steps_stops (n : Nat) (hn : 1 ≤ n) (n₀ R C k hb ho L cap g cap' qf qt : Nat) (s : Int) (zs : List Int) (G : Gw.Good R C s zs) (hk : k < zs.length)
    (w : World) (hw : SK n₀ w R C k hb ho L cap g cap' qf qt s zs) (hA : AspAt w) (hn0 : n₀ ≤ w.heap.size) :
    SeqStopsK Fence.wide n Tryd.prog 96 #[.pointer (some ⟨qf, 0, none⟩), .pointer (some ⟨qt, 0, none⟩)] (fun x : Gw.Dir R C k => #[stepV R C s zs k x.1]) (Below n₀)
      (fun ys => Gw.UpTo R C k 8 ys) (fun pre => ∃ a, a ≤ 8 ∧ Gw.UpTo R C k a pre) 8 w := fun l J Jx W hW hJ _ hY h0 => by
  refine (steps1_in n hn l n₀ R C k hb ho L cap g cap' qf qt s zs G hk (fun pre u => J pre u ∧ W.heap.size ≤ u.heap.size) Jx (fun pre u u' hu hb' => ⟨hJ pre u u' none hu.1 (below_grows hb') (fun r e => by cases e), Nat.le_trans hu.2 hb'.size⟩) ?_ W (hw.below (hW.mono hn0)) (hA.below hW) (Nat.le_trans hn0 hW.size) ⟨h0, Nat.le_refl _⟩).mono ?_
  · rintro pre x u ⟨hu, hs⟩ hlen
    obtain ⟨fn, tmps, assign, body, hy, hR⟩ := hY pre x u hu hlen
    refine ⟨fn, tmps, assign, body, hy, hR.mono ?_⟩
    rintro e u' (⟨h1, h2, h3⟩ | h)
    · exact .inl ⟨h1, ⟨h2, Nat.le_trans hs h3.size⟩, h3⟩
    · exact .inr h
  · rintro e u ⟨hv, ⟨ys, h1, h2⟩ | ⟨a, pre, h1, h2, h3⟩⟩
    · exact ⟨hv, .inl ⟨ys, h1, h2.1⟩⟩
    · exact ⟨hv, .inr ⟨pre, ⟨a, h1, h2⟩, h3⟩⟩
end Go.Proofs.YthcmpalbhaefbaaDoor

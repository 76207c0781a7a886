/-
  A number is put to its place among rising ones, by the model (for seats without tests; TkK has the same beside tests). No condition of its own.
-/
import Derived.Test.YthcmpalbhaefbaaDoorGen
import Derived.Test.YthcmpalbhaefbaaDoorIntG
import Derived.Laws.AppendOwn
import Derived.Laws.OwnMore
namespace Go.Proofs.YthcmpalbhaefbaaDoor
open Go.RowKit Go.Shelf
set_option linter.unusedVariables false
set_option maxRecDepth 100000

/-- how a call ends that answers numbers -/
def RJp (w : World) (l : List Int) (e : Ending) (w' : World) : Prop := ∃ u, e = .returned u ∧ Own w.heap.size w' u l ∧ Below w.heap.size w w'
namespace Ptq
def ptS (n : Int) (s : List Int × Bool) (z : Int) : List Int × Bool := if s.2 = false ∧ n ≤ z then (s.1 ++ (if n < z then [n] else []) ++ [z], true) else (s.1 ++ [z], s.2)
def ptF (n : Int) (zs : List Int) : List Int × Bool := zs.foldl (ptS n) ([], false)
/-- a number put to its place among rising ones, once -/
def pt (n : Int) (zs : List Int) : List Int := if (ptF n zs).2 = true then (ptF n zs).1 else (ptF n zs).1 ++ [n]
theorem ptF_take {n : Int} {zs : List Int} {k : Nat} (h : k < zs.length) : ptF n (zs.take (k + 1)) = ptS n (ptF n (zs.take k)) zs[k] := by
  rw [List.take_succ_eq_append_getElem h]; unfold ptF; rw [List.foldl_append]; rfl
theorem ptF_len (n : Int) (zs : List Int) : ∀ k, k ≤ zs.length → (ptF n (zs.take k)).1.length ≤ 2 * k := by
  intro k
  induction k with
  | zero => intro _; rw [List.take_zero]; exact Nat.le_refl _
  | succ k ih =>
    intro h
    have := ih (by omega)
    rw [ptF_take (by omega)]
    unfold ptS
    split
    · split <;> simp <;> omega
    · simp; omega
end Ptq
set_option maxHeartbeats 3200000 in
theorem l00Put_any (w : World) (v : Value) (zs : List Int) (n : Int) (hv : Sl w v zs) (hl : zs.length ≤ 1048576) :
    Calls Tryd.prog 69 #[v, .int .i64 n] w (RJp w (Ptq.pt n zs)) := by
  obtain ⟨i0, hi, hz0, hz1, hz2⟩ := info_parts info_i64
  obtain ⟨a, cap, rfl⟩ := hv.form
  have HV := Lib.hid hv
  have O1 : Hid (Own w.heap.size (w.alloc (.cells #[] 2)) (.slice (some ⟨w.heap.size, 0, none⟩) 0 0) (Ptq.ptF n (zs.take 0)).1) := Lib.hid (World.ownsRow_lit _ _ _ (Nat.le_refl _) (by decide) (by decide))
  have B1 := Lib.hid ((Below.refl w.heap.size w).alloc (Nat.le_refl _) (.cells #[] 2))
  clear hv
  go_enter Tryd.func69, Tryd.ntmps69
  go_wp2
  go_loopw [5, 6, 7] (fun u s6 i wr => ∃ k : Nat, k ≤ zs.length ∧ s6 = .bool (Ptq.ptF n (zs.take k)).2 ∧ i = .int .i64 k ∧ Hid (Own w.heap.size wr u (Ptq.ptF n (zs.take k)).1) ∧ Hid (Below w.heap.size w wr)) (fun _ _ i _ => zs.length - (intOf i).toNat)
  case atStart => exact ⟨0, Nat.zero_le _, rfl, rfl, O1, B1⟩
  case round =>
    obtain ⟨k, hk, rfl, rfl, hO, hb⟩ := hrel
    clear O1 B1
    have hpl := Ptq.ptF_len n zs k hk
    by_cases hlt : k < zs.length
    · have hltz : (k : Int) < (zs.length : Int) := by omega
      obtain ⟨b, off, cap1, hn, hbl, hcc⟩ := (HV.out.below hb.out).atI hlt
      simp only [Value.slice.injEq] at hn
      obtain ⟨rfl, -, rfl⟩ := hn
      have c0 := hcc k hlt
      have HZ := Lib.hid (fun W (h : Below w.heap.size w W) => by
        obtain ⟨b2, off2, cap2, hn2, -, hc2⟩ := (HV.out.below h).atI hlt
        simp only [Value.slice.injEq, Option.some.injEq, Addr.mk.injEq] at hn2
        obtain ⟨⟨rfl, rfl, -⟩, -, -⟩ := hn2
        exact (hc2 k hlt : W.cell? ⟨b, off + k, none⟩ = some (.int .i64 zs[k])))
      clear hcc
      cases hd : (Ptq.ptF n (zs.take k)).2 with
      | true =>
        have hs : Hid (Ptq.ptF n (zs.take (k + 1)) = ((Ptq.ptF n (zs.take k)).1 ++ [zs[k]], true)) := Lib.hid (by rw [Ptq.ptF_take hlt]; unfold Ptq.ptS; rw [if_neg (by rw [hd]; simp), hd])
        clear hd
        generalize (Ptq.ptF n (zs.take k)).1 = l at *
        generalize zs[k] = z at *
        go_wp2_with (at_builtin; refine wpList_append_own _ rfl _ _ 22 rfl w.heap.size 2 i0 (.int .i64 0) 1 8 Tryd.underlying22 hi hz0 hz1 hz2 rfl (by decide) _ _ _ rfl (own_belowAll hO.out ((Below.refl _ _).alloc (Nat.le_refl _) _)) ⟨wr.heap.size, 0, none⟩ 1 1 [.int .i64 z] rfl rfl (row_new _ [_] _) (iv_cell [z]) (by unfold maxLen; omega) (by omega) (by have := hb.out.size; first | omega | (simp; omega)) ?_)
        intro v2 wa hown' hgrow _
        have Owa := Lib.hid (show Own w.heap.size wa v2 (l ++ [z]) by unfold Own; rw [iv_append, List.length_append]; first | exact hown' | (rw [List.length_append]; exact hown'))
        have Bwa : Hid (Below w.heap.size w wa) := Lib.hid ((hb.out.alloc hb.out.size _).grown hgrow (by have := hb.out.size; simp; omega) (fun j hj => (World.ownsRow.lt hO.out j hj).1))
        clear hown' hgrow hO hb
        go_wp2
        exact ⟨⟨k + 1, by omega, by rw [hs.out], by go_num, Lib.hid (by rw [hs.out]; exact Owa.out), Bwa⟩, by simp only [intOf]; omega⟩
      | false =>
        by_cases hz : n ≤ zs[k]
        · by_cases hz2' : n < zs[k]
          · have hs : Hid (Ptq.ptF n (zs.take (k + 1)) = ((Ptq.ptF n (zs.take k)).1 ++ [n] ++ [zs[k]], true)) := Lib.hid (by rw [Ptq.ptF_take hlt]; unfold Ptq.ptS; rw [if_pos ⟨hd, hz⟩, if_pos hz2'])
            clear hd
            generalize (Ptq.ptF n (zs.take k)).1 = l at *
            generalize zs[k] = z at *
            go_wp2_with (at_builtin; refine wpList_append_own _ rfl _ _ 22 rfl w.heap.size 2 i0 (.int .i64 0) 1 8 Tryd.underlying22 hi hz0 hz1 hz2 rfl (by decide) _ _ _ rfl (own_belowAll hO.out ((Below.refl _ _).alloc (Nat.le_refl _) _)) ⟨wr.heap.size, 0, none⟩ 1 1 [.int .i64 n] rfl rfl (row_new _ [_] _) (iv_cell [n]) (by unfold maxLen; omega) (by omega) (by have := hb.out.size; first | omega | (simp; omega)) ?_)
            intro v2 wa hown' hgrow _
            have Owa := Lib.hid (show Own w.heap.size wa v2 (l ++ [n]) by unfold Own; rw [iv_append, List.length_append]; first | exact hown' | (rw [List.length_append]; exact hown'))
            have Bwa : Hid (Below w.heap.size w wa) := Lib.hid ((hb.out.alloc hb.out.size _).grown hgrow (by have := hb.out.size; simp; omega) (fun j hj => (World.ownsRow.lt hO.out j hj).1))
            clear hown' hgrow hO hb
            have d0 : wa.cell? ⟨b, off + k, none⟩ = some (.int .i64 z) := HZ.out _ Bwa.out
            have hgl2 : b < wa.heap.size := World.block_lt_of_cell? wa _ d0
            have hll : (l ++ [n]).length ≤ 2 * k + 1 := by rw [List.length_append]; simp; omega
            go_wp2_with (at_builtin; refine wpList_append_own _ rfl _ _ 22 rfl w.heap.size 2 i0 (.int .i64 0) 1 8 Tryd.underlying22 hi hz0 hz1 hz2 rfl (by decide) _ _ _ rfl (own_belowAll Owa.out ((Below.refl _ _).alloc (Nat.le_refl _) _)) ⟨wa.heap.size, 0, none⟩ 1 1 [.int .i64 z] rfl rfl (row_new _ [_] _) (iv_cell [z]) (by unfold maxLen; omega) (by omega) (by have := Bwa.out.size; first | omega | (simp; omega)) ?_)
            intro v3 wb hown' hgrow _
            have Owb := Lib.hid (show Own w.heap.size wb v3 (l ++ [n] ++ [z]) by unfold Own; rw [iv_append, List.length_append]; first | exact hown' | (rw [List.length_append]; exact hown'))
            have Bwb : Hid (Below w.heap.size w wb) := Lib.hid ((Bwa.out.alloc Bwa.out.size _).grown hgrow (by have := Bwa.out.size; simp; omega) (fun j hj => (World.ownsRow.lt Owa.out j hj).1))
            clear hown' hgrow Owa Bwa
            go_wp2
            exact ⟨⟨k + 1, by omega, by rw [hs.out], by go_num, Lib.hid (by rw [hs.out]; exact Owb.out), Bwb⟩, by simp only [intOf]; omega⟩
          · have hs : Hid (Ptq.ptF n (zs.take (k + 1)) = ((Ptq.ptF n (zs.take k)).1 ++ [zs[k]], true)) := Lib.hid (by rw [Ptq.ptF_take hlt]; unfold Ptq.ptS; rw [if_pos ⟨hd, hz⟩, if_neg hz2']; simp)
            clear hd
            generalize (Ptq.ptF n (zs.take k)).1 = l at *
            generalize zs[k] = z at *
            go_wp2_with (at_builtin; refine wpList_append_own _ rfl _ _ 22 rfl w.heap.size 2 i0 (.int .i64 0) 1 8 Tryd.underlying22 hi hz0 hz1 hz2 rfl (by decide) _ _ _ rfl (own_belowAll hO.out ((Below.refl _ _).alloc (Nat.le_refl _) _)) ⟨wr.heap.size, 0, none⟩ 1 1 [.int .i64 z] rfl rfl (row_new _ [_] _) (iv_cell [z]) (by unfold maxLen; omega) (by omega) (by have := hb.out.size; first | omega | (simp; omega)) ?_)
            intro v2 wa hown' hgrow _
            have Owa := Lib.hid (show Own w.heap.size wa v2 (l ++ [z]) by unfold Own; rw [iv_append, List.length_append]; first | exact hown' | (rw [List.length_append]; exact hown'))
            have Bwa : Hid (Below w.heap.size w wa) := Lib.hid ((hb.out.alloc hb.out.size _).grown hgrow (by have := hb.out.size; simp; omega) (fun j hj => (World.ownsRow.lt hO.out j hj).1))
            clear hown' hgrow hO hb
            go_wp2
            exact ⟨⟨k + 1, by omega, by rw [hs.out], by go_num, Lib.hid (by rw [hs.out]; exact Owa.out), Bwa⟩, by simp only [intOf]; omega⟩
        · have hs : Hid (Ptq.ptF n (zs.take (k + 1)) = ((Ptq.ptF n (zs.take k)).1 ++ [zs[k]], false)) := Lib.hid (by rw [Ptq.ptF_take hlt]; unfold Ptq.ptS; rw [if_neg (fun h => hz h.2), hd])
          clear hd
          generalize (Ptq.ptF n (zs.take k)).1 = l at *
          generalize zs[k] = z at *
          go_wp2_with (at_builtin; refine wpList_append_own _ rfl _ _ 22 rfl w.heap.size 2 i0 (.int .i64 0) 1 8 Tryd.underlying22 hi hz0 hz1 hz2 rfl (by decide) _ _ _ rfl (own_belowAll hO.out ((Below.refl _ _).alloc (Nat.le_refl _) _)) ⟨wr.heap.size, 0, none⟩ 1 1 [.int .i64 z] rfl rfl (row_new _ [_] _) (iv_cell [z]) (by unfold maxLen; omega) (by omega) (by have := hb.out.size; first | omega | (simp; omega)) ?_)
          intro v2 wa hown' hgrow _
          have Owa := Lib.hid (show Own w.heap.size wa v2 (l ++ [z]) by unfold Own; rw [iv_append, List.length_append]; first | exact hown' | (rw [List.length_append]; exact hown'))
          have Bwa : Hid (Below w.heap.size w wa) := Lib.hid ((hb.out.alloc hb.out.size _).grown hgrow (by have := hb.out.size; simp; omega) (fun j hj => (World.ownsRow.lt hO.out j hj).1))
          clear hown' hgrow hO hb
          go_wp2
          exact ⟨⟨k + 1, by omega, by rw [hs.out], by go_num, Lib.hid (by rw [hs.out]; exact Owa.out), Bwa⟩, by simp only [intOf]; omega⟩
    · have hltz : ¬ (k : Int) < (zs.length : Int) := by omega
      have hkn : zs.take k = zs := List.take_of_length_le (by omega)
      cases hd : (Ptq.ptF n (zs.take k)).2 with
      | true =>
        have hp : Hid (Ptq.pt n zs = (Ptq.ptF n (zs.take k)).1) := Lib.hid (by have h0 : Ptq.ptF n (zs.take k) = Ptq.ptF n zs := (by rw [hkn]); unfold Ptq.pt; rw [← h0, hd, if_pos rfl])
        clear hd hkn
        generalize (Ptq.ptF n (zs.take k)).1 = l at *
        go_wp2
        go_ret
        exact ⟨_, rfl, by rw [hp.out]; exact hO.out, hb.out⟩
      | false =>
        have hp : Hid (Ptq.pt n zs = (Ptq.ptF n (zs.take k)).1 ++ [n]) := Lib.hid (by have h0 : Ptq.ptF n (zs.take k) = Ptq.ptF n zs := (by rw [hkn]); unfold Ptq.pt; rw [← h0, hd, if_neg (by simp)])
        clear hd hkn
        generalize (Ptq.ptF n (zs.take k)).1 = l at *
        go_wp2_with (at_builtin; refine wpList_append_own _ rfl _ _ 22 rfl w.heap.size 2 i0 (.int .i64 0) 1 8 Tryd.underlying22 hi hz0 hz1 hz2 rfl (by decide) _ _ _ rfl (own_belowAll hO.out ((Below.refl _ _).alloc (Nat.le_refl _) _)) ⟨wr.heap.size, 0, none⟩ 1 1 [.int .i64 n] rfl rfl (row_new _ [_] _) (iv_cell [n]) (by unfold maxLen; omega) (by omega) (by have := hb.out.size; first | omega | (simp; omega)) ?_)
        intro v2 wa hown' hgrow _
        have Owa := Lib.hid (show Own w.heap.size wa v2 (l ++ [n]) by unfold Own; rw [iv_append, List.length_append]; first | exact hown' | (rw [List.length_append]; exact hown'))
        have Bwa : Hid (Below w.heap.size w wa) := Lib.hid ((hb.out.alloc hb.out.size _).grown hgrow (by have := hb.out.size; simp; omega) (fun j hj => (World.ownsRow.lt hO.out j hj).1))
        clear hown' hgrow hO hb
        go_wp2
        go_ret
        exact ⟨_, rfl, by rw [hp.out]; exact Owa.out, Bwa.out⟩
end Go.Proofs.YthcmpalbhaefbaaDoor

/-
  The cells for which something holds, at any function. No condition of its own.
-/
import Derived.Test.YtaldmdammipfjaaStf
import Derived.Test.YtaldmdammipfjaaPt
import Derived.Deep.OwnRows
import Derived.OwnWalk
namespace Go.Proofs.Ytaldmdammipfjaa
open Go.RowKit Go.Shelf Go.Deep
set_option linter.unusedVariables false
set_option maxRecDepth 100000
theorem has_eq {ks : List Int} (hx : ∀ x ∈ ks, 0 ≤ x ∧ x < 64) (i : Nat) : (Rl.sN ks).testBit i = ks.any (fun x => x == (i : Int)) := by
  rw [Rl.sN_bit]
  refine Bool.eq_iff_iff.2 ?_
  rw [List.any_eq_true, List.any_eq_true]
  constructor
  · rintro ⟨x, h1, h2⟩
    exact ⟨x, h1, beq_iff_eq.2 (by have := hx x h1; have := of_decide_eq_true h2; omega)⟩
  · rintro ⟨x, h1, h2⟩
    exact ⟨x, h1, decide_eq_true (by have := beq_iff_eq.1 h2; omega)⟩
set_option maxHeartbeats 3200000 in
theorem cellsWhere_any (h : Nat) (lb : Array Value) (p : Nat → Bool) (w : World) (r c s : Int) (a : Option Addr) (n cap : Nat) (u : Value) (eg : ∀ args w, (callFunc h args).run Try.prog w = .ok (.enter h args) w) (hl : n ≤ 64)
    (hc : ∀ k : Nat, k < n → ∀ W, Below w.heap.size w W → Calls Try.prog h (#[.int .i64 (k : Int)] ++ lb) W fun e w' => e = .returned (.bool (p k)) ∧ Below W.heap.size W w') :
    Calls Try.prog 62 #[.agg #[.int .i64 r, .int .i64 c, .int .i64 s, .slice a n cap, u], .func (.func h) #[] lb] w (RJp w (Gw.stF p n)) := by
  obtain ⟨i0, hi, hz0, hz1, hz2⟩ := info_parts info_i64
  have HC := Lib.hid hc
  have T0 := Lib.hid (Whole.new w 87 #[.int .i64 r, .int .i64 c, .int .i64 s, .slice a n cap, u])
  have B0 := Lib.hid ((Below.refl w.heap.size w).alloc (Nat.le_refl _) (.cells #[.int .i64 r, .int .i64 c, .int .i64 s, .slice a n cap, u] 87))
  clear hc
  go_enter Try.func62, Try.ntmps62
  go_wp2_with (at_make; refine wpList_make_own _ rfl _ _ 22 rfl w.heap.size 2 i0 (.int .i64 0) 1 Try.underlying22 hi hz0 hz1 .i64 .i64 _ n rfl rfl rfl ?c1 ?c2 ?c3 ?_)
  case c1 => rw [hz2]; omega
  case c2 => unfold maxLen; omega
  case c3 => first | exact B0.out.size | (have := B0.out.size; simpa using this)
  intro w1 hown hg
  have O1 : Hid (Own w.heap.size w1 _ (Gw.stF p 0)) := Lib.hid hown
  have N1 : Hid (Below (w.alloc (.cells #[.int .i64 r, .int .i64 c, .int .i64 s, .slice a n cap, u] 87)).heap.size (w.alloc (.cells #[.int .i64 r, .int .i64 c, .int .i64 s, .slice a n cap, u] 87)) w1) := Lib.hid ((Below.refl _ _).grown hg (Nat.le_refl _) (fun k hk => by cases hk))
  have x3 := (T0.out.all N1.out).at_ 3
  have B1 := Lib.hid (bt B0.out N1.out)
  clear hown hg
  go_wp2_with fail
  go_loopw [5, 6, 16] (fun q _ i wr => ∃ (k : Nat), k ≤ n ∧ i = .int .i64 (k : Int) ∧ Hid (Own w.heap.size wr q (Gw.stF p k)) ∧ Hid (Below w.heap.size w wr)) (fun _ _ i _ => n - (intOf i).toNat)
  case atStart => exact ⟨0, Nat.zero_le _, rfl, O1, B1⟩
  case round =>
    obtain ⟨k, hk, rfl, ho, hbw⟩ := hrel
    clear O1 B1 x3
    have hlm : (Gw.stF p k).length ≤ 64 := Nat.le_trans (Gw.stF_len _ _) (by omega)
    by_cases hlt : k < n
    · have hltz : (k : Int) < (n : Int) := by omega
      have C := Lib.hid (fun W hW => HC.out k hlt W hW)
      cases hq : p k with
      | true =>
        have hw : Hid (Gw.stF p (k + 1) = Gw.stF p k ++ [(k : Int)]) := Lib.hid (Gw.stF_yes hq)
        rw [hq] at C
        clear hq
        generalize Gw.stF p k = l at *
        go_wp2_with fail
        go_at_fn h
        refine (C.out _ hbw.out).mono ?_
        rintro e w2 ⟨rfl, b2⟩
        have O2 := Lib.hid (own_belowAll ho.out b2)
        have B2 := Lib.hid (bt hbw.out b2)
        clear b2 ho hbw
        go_wp2_with (at_builtin; refine wpList_append_own _ rfl _ _ 22 rfl w.heap.size 2 i0 (.int .i64 0) 1 8 Try.underlying22 hi hz0 hz1 hz2 rfl (by decide) _ _ _ rfl (own_belowAll O2.out ((Below.refl _ _).alloc (Nat.le_refl _) _)) ⟨w2.heap.size, 0, none⟩ 1 1 [.int .i64 (k : Int)] rfl rfl (row_new _ [_] _) (iv_cell [(k : Int)]) ?c3 ?c4 ?c5 ?_)
        case c3 => unfold maxLen; omega
        case c4 => omega
        case c5 => have := B2.out.size; first | omega | (simp; omega)
        intro v' w3 hown' hgrow _
        have hnx : Hid (Own w.heap.size w3 v' (Gw.stF p (k + 1))) := Lib.hid (by rw [hw.out]; unfold Own; rw [iv_append, List.length_append]; exact hown')
        have hnb : Hid (Below w.heap.size w w3) := Lib.hid ((B2.out.alloc B2.out.size _).grown hgrow (by have := B2.out.size; simp; omega) (fun j hj => (O2.out.lt j hj).1))
        clear hown' hgrow O2 B2
        go_wp2
        exact ⟨⟨k + 1, by omega, by go_num, hnx, hnb⟩, by simp only [intOf]; omega⟩
      | false =>
        have hw : Hid (Gw.stF p (k + 1) = Gw.stF p k) := Lib.hid (Gw.stF_no hq)
        rw [hq] at C
        clear hq
        go_wp2_with fail
        go_at_fn h
        refine (C.out _ hbw.out).mono ?_
        rintro e w2 ⟨rfl, b2⟩
        have O2 := Lib.hid (own_belowAll ho.out b2)
        have B2 := Lib.hid (bt hbw.out b2)
        clear b2 ho hbw
        go_wp2_with fail
        exact ⟨⟨k + 1, by omega, by go_num, Lib.hid (by rw [hw.out]; exact O2.out), B2⟩, by simp only [intOf]; omega⟩
    · have hltz : ¬ (k : Int) < (n : Int) := by omega
      have hw : Hid (Gw.stF p n = Gw.stF p k) := Lib.hid (by rw [show k = n by omega])
      go_wp2
      go_ret
      exact ⟨_, rfl, by rw [hw.out]; exact ho.out, hbw.out⟩
end Go.Proofs.Ytaldmdammipfjaa

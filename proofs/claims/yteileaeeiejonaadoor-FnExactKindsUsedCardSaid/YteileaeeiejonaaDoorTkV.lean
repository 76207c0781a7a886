/-
  When a list of tests is valid, by the model and by the program. The condition of the program's side: impl.testRules holds what the program's text lays.
-/
import Derived.Test.YteileaeeiejonaaDoorTkA
import Derived.Test.YteileaeeiejonaaDoorTkB
import Derived.Test.YteileaeeiejonaaDoorTstF
import Derived.Deep.RegionHeld3
namespace Go.Proofs.YteileaeeiejonaaDoor
open Go.RowKit Go.Shelf Go.Deep
set_option linter.unusedVariables false
set_option maxRecDepth 100000

set_option maxHeartbeats 1600000 in
theorem l08Ok_any (w : World) (v : Value) (xs : List Tst) (hv : TeSl w v xs) (hl : xs.length ≤ 1048576) :
    Calls Tryd.prog 46 #[v] w fun e w' => e = .returned (.bool (Tq.okS xs)) ∧ Below w.heap.size w w' := by
  obtain ⟨a, cap, rfl⟩ := hv.form
  have HV := Lib.hid hv
  clear hv
  go_enter Tryd.func46, Tryd.ntmps46
  go_wp2
  go_loopw [3] (fun i wr => ∃ k : Nat, k ≤ xs.length ∧ i = .int .i64 k ∧ Hid ((xs.take k).all Tq.okT = true ∧ Tq.up 0 (xs.take k) = true) ∧ Hid (Below w.heap.size w wr)) (fun i _ => xs.length - (intOf i).toNat)
  case atStart => exact ⟨0, Nat.zero_le _, rfl, Lib.hid ⟨rfl, rfl⟩, Lib.hid (Below.refl _ _)⟩
  case round =>
    obtain ⟨k, hk, rfl, hp, hw⟩ := hrel
    by_cases hlt : k < xs.length
    · obtain ⟨b, off, cap1, hn, hbl, hc⟩ := (HV.out.below hw.out).at_ hlt
      simp only [Value.slice.injEq] at hn
      obtain ⟨rfl, -, rfl⟩ := hn
      have C := fun n => Lib.hid (l08One_any xs[k] b (off + k * 5) (wr.drewN n) ((hc k hlt).drewN n))
      cases hq : Tq.okT xs[k] with
      | true =>
        have HF := (Tq.okT_iff _).1 hq
        have ha := Lib.hid (Tq.all_snoc hlt hp.out.1 hq)
        rw [hq] at C
        clear hq
        rcases Nat.eq_zero_or_pos k with h0 | h0
        · subst h0
          have hu : Hid (Tq.up 0 (xs.take (0 + 1)) = true) := Lib.hid (Tq.up_snoc hlt rfl (by have := HF.h1; show (0 : Int) ≤ _; omega))
          simp only [Nat.zero_mul, Nat.add_zero] at C
          clear hc HF hp
          go_wp2_with fail
          go_quiet ((go_at_call 53; exact Calls.quiet_of_same ((C _).out.mono fun _ _ ⟨h, h'⟩ => ⟨h, h'.symm⟩)))
          go_wp2
          exact ⟨⟨1, by omega, by go_num, Lib.hid ⟨ha.out, hu.out⟩, Lib.hid (below_drewN hw.out _)⟩, by simp only [intOf]; omega⟩
        · have c4 := (hc k hlt).c4
          have d0 : wr.cell? ⟨b, off + (k - 1) * 5 + 4, none⟩ = some (.int .i64 (xs[k - 1]'(by omega)).ho) := (hc (k - 1) (by omega)).c4
          clear hc HF
          obtain ⟨m, rfl⟩ : ∃ m, k = m + 1 := ⟨k - 1, by omega⟩
          simp only [Nat.add_sub_cancel] at d0
          by_cases ht : xs[m + 1].ho < (xs[m]'(by omega)).ho
          · have hn := Lib.hid (Tq.okS_turn (show 0 < m + 1 by omega) hlt ht)
            go_wp2_with fail
            go_quiet ((go_at_call 53; exact Calls.quiet_of_same ((C _).out.mono fun _ _ ⟨h, h'⟩ => ⟨h, h'.symm⟩)))
            go_wp2
            go_ret
            exact ⟨ret_bool hn.out.symm, below_drewN hw.out _⟩
          · have hu : Hid (Tq.up 0 (xs.take (m + 1 + 1)) = true) := Lib.hid (Tq.up_snoc hlt hp.out.2 (by rw [Tq.la_take 0 (show m < xs.length by omega)]; omega))
            clear hp
            go_wp2_with fail
            go_quiet ((go_at_call 53; exact Calls.quiet_of_same ((C _).out.mono fun _ _ ⟨h, h'⟩ => ⟨h, h'.symm⟩)))
            go_wp2
            exact ⟨⟨m + 1 + 1, by omega, by go_num, Lib.hid ⟨ha.out, hu.out⟩, Lib.hid (below_drewN hw.out _)⟩, by simp only [intOf]; omega⟩
      | false =>
        have hn := Lib.hid (Tq.okS_bad hlt hq)
        rw [hq] at C
        clear hq hc hp
        go_wp2_with fail
        go_quiet ((go_at_call 53; exact Calls.quiet_of_same ((C _).out.mono fun _ _ ⟨h, h'⟩ => ⟨h, h'.symm⟩)))
        go_wp2
        go_ret
        exact ⟨ret_bool hn.out.symm, below_drewN hw.out _⟩
    · have hkz : k = xs.length := by omega
      have hn : Hid (Tq.okS xs = decide (xs.length ≤ 16)) := Lib.hid (Tq.okS_all (by rw [← hkz]; exact hp.out.1) (by rw [← hkz]; exact hp.out.2))
      clear hkz
      by_cases h16 : xs.length ≤ 16
      · have hd : Hid (Tq.okS xs = true) := Lib.hid (by rw [hn.out]; exact decide_eq_true h16)
        go_wp2
        go_ret
        exact ⟨ret_bool (by rw [hd.out]; exact decide_eq_true (by omega)), hw.out⟩
      · have hd : Hid (Tq.okS xs = false) := Lib.hid (by rw [hn.out]; exact decide_eq_false h16)
        go_wp2
        go_ret
        exact ⟨ret_bool (by rw [hd.out]; exact decide_eq_false (by omega)), hw.out⟩
theorem specValidTests_any (w : World) (v : Value) (xs : List Tst) (hv : TeSl w v xs) (hl : xs.length ≤ 1048576) :
    Calls Tryd.prog 16 #[v] w fun e w' => e = .returned (.bool (Tq.okS xs)) ∧ Below w.heap.size w w' := by
  have C := Lib.hid (l08Ok_any w v xs hv hl)
  clear hv hl
  go_enter Tryd.func16, Tryd.ntmps16
  go_wp2_with fail
  refine C.out.mono ?_
  rintro e w1 ⟨rfl, b1⟩
  have B1 := Lib.hid b1
  clear b1
  go_wp2_with fail
  go_ret
  exact ⟨rfl, B1.out⟩
/-! ### the program -/
namespace Tq
/-- how two numbers compare -/
def cmp (a b : Int) : Int := if a < b then -1 else if b < a then 1 else 0
theorem cmp_neg {a b : Int} : cmp a b < 0 ↔ a < b := by unfold cmp; split <;> (try split) <;> omega
theorem cmp_bd (a b : Int) : -1 ≤ cmp a b ∧ cmp a b ≤ 1 := by unfold cmp; split <;> (try split) <;> omega
end Tq
theorem isNaNI_any (a : Int) (w : World) : Calls Tryd.prog 87 #[.int .i64 a] w fun e w' => e = .returned (.bool false) ∧ w = w' := by
  have h : (a != a) = false := bne_self_eq_false' _
  go_enter Tryd.func87, Tryd.ntmps87
  go_wp2
  go_ret
  exact ⟨rfl, rfl⟩
set_option maxHeartbeats 800000 in
theorem compareI_any (a b : Int) (w : World) : Calls Tryd.prog 51 #[.int .i64 a, .int .i64 b] w fun e w' => e = .returned (.int .i64 (Tq.cmp a b)) ∧ w = w' := by
  rcases Int.lt_trichotomy a b with h | h | h
  · have hr : Hid (Tq.cmp a b = -1) := Lib.hid (by unfold Tq.cmp; rw [if_pos h])
    go_enter Tryd.func51, Tryd.ntmps51
    go_wp2_with (go_at_call 87; refine (isNaNI_any _ _).mono ?_; rintro e w' ⟨rfl, rfl⟩)
    go_ret
    exact ⟨ret_int hr.out.symm, rfl⟩
  · have h1 : ¬ a < b := by omega
    have h2 : ¬ b < a := by omega
    have hr : Hid (Tq.cmp a b = 0) := Lib.hid (by unfold Tq.cmp; rw [if_neg h1, if_neg h2])
    clear h
    go_enter Tryd.func51, Tryd.ntmps51
    go_wp2_with (go_at_call 87; refine (isNaNI_any _ _).mono ?_; rintro e w' ⟨rfl, rfl⟩)
    go_ret
    exact ⟨ret_int hr.out.symm, rfl⟩
  · have h1 : ¬ a < b := by omega
    have hr : Hid (Tq.cmp a b = 1) := Lib.hid (by unfold Tq.cmp; rw [if_neg h1, if_pos h])
    go_enter Tryd.func51, Tryd.ntmps51
    go_wp2_with (go_at_call 87; refine (isNaNI_any _ _).mono ?_; rintro e w' ⟨rfl, rfl⟩)
    go_ret
    exact ⟨ret_int hr.out.symm, rfl⟩
theorem hourCmp_any (x y : Tst) (W : World) :
    Calls Tryd.prog 50 #[.agg #[.int .i64 x.ki, .int .i64 x.sc, .int .i64 x.qu, .int .i64 x.de, .int .i64 x.ho], .agg #[.int .i64 y.ki, .int .i64 y.sc, .int .i64 y.qu, .int .i64 y.de, .int .i64 y.ho]] W fun e w' => e = .returned (.int .i64 (Tq.cmp x.ho y.ho)) ∧ Below W.heap.size W w' := by
  have C := Lib.hid (fun W => compareI_any x.ho y.ho W)
  have B : Hid (Below W.heap.size W ((boxTst W x 35).alloc (.cells #[.int .i64 y.ki, .int .i64 y.sc, .int .i64 y.qu, .int .i64 y.de, .int .i64 y.ho] 35))) := Lib.hid ((boxTst_below W x _).alloc (by rw [boxTst_size]; omega) _)
  go_enter Tryd.func50, Tryd.ntmps50
  go_wp2_with (go_at_call 51; refine (C.out _).mono ?_; rintro e w' ⟨rfl, rfl⟩)
  go_ret
  exact ⟨rfl, B.out⟩
set_option maxHeartbeats 3200000 in
theorem sortedTst_any (w : World) (v : Value) (xs : List Tst) (hv : TeSl w v xs) (hl : xs.length ≤ 1048576) (hf : ∀ x ∈ xs, 0 ≤ x.ho) :
    Calls Tryd.prog 49 #[v, .func (.func 50) #[] #[]] w fun e w' => e = .returned (.bool (Tq.up 0 xs)) ∧ Below w.heap.size w w' := by
  have eg := enters_of Tryd.func50 (by kernel_rfl) rfl
  obtain ⟨a, cap, rfl⟩ := hv.form
  have HV := Lib.hid hv
  have HF := Lib.hid hf
  have hw0 : wrap64 ((xs.length : Int) - 1) = (xs.length : Int) - 1 := IntWalk.wrap64_in _ ⟨by omega, by omega⟩
  clear hv hf
  go_enter Tryd.func49, Tryd.ntmps49
  go_wp2
  go_loopw [5] (fun i wr => ∃ k : Nat, k ≤ xs.length ∧ i = .int .i64 ((k : Int) - 1) ∧ Hid (Below w.heap.size w wr) ∧ Hid (∀ j (hj : j + 1 < xs.length), k ≤ j + 1 → (xs[j]'(by omega)).ho ≤ xs[j + 1].ho)) (fun i _ => (intOf i + 1).toNat)
  case atStart => exact ⟨xs.length, Nat.le_refl _, rfl, Lib.hid (Below.refl _ _), Lib.hid (fun j hj h => by omega)⟩
  case round =>
    obtain ⟨k, hk, rfl, hb, hs⟩ := hrel
    by_cases hlt : 1 < k
    · obtain ⟨m, rfl⟩ : ∃ m, k = m + 2 := ⟨k - 2, by omega⟩
      have hlt2 : m + 1 < xs.length := by omega
      have hi : ((m + 2 : Nat) : Int) - 1 = (m : Int) + 1 := by omega
      have hgt : (0 : Int) < (m : Int) + 1 := by omega
      rw [hi]
      obtain ⟨b, off, cap1, hn, hbl, hcc⟩ := (HV.out.below hb.out).at_ hlt2
      simp only [Value.slice.injEq] at hn
      obtain ⟨rfl, -, rfl⟩ := hn
      have KA := Lib.hid (fun W (h : Below w.heap.size w W) => by
        obtain ⟨b2, off2, cap2, hn2, -, hc2⟩ := (HV.out.below h).at_ hlt2
        simp only [Value.slice.injEq, Option.some.injEq, Addr.mk.injEq] at hn2
        obtain ⟨⟨rfl, rfl, -⟩, -, -⟩ := hn2
        exact (⟨(hc2 (m + 1) hlt2).c0, (hc2 (m + 1) hlt2).c1, (hc2 (m + 1) hlt2).c2, (hc2 (m + 1) hlt2).c3, (hc2 (m + 1) hlt2).c4⟩ : W.cell? ⟨b, off + (m + 1) * 5, none⟩ = some (.int .i64 xs[m + 1].ki) ∧ W.cell? ⟨b, off + (m + 1) * 5 + 1, none⟩ = some (.int .i64 xs[m + 1].sc) ∧ W.cell? ⟨b, off + (m + 1) * 5 + 2, none⟩ = some (.int .i64 xs[m + 1].qu) ∧ W.cell? ⟨b, off + (m + 1) * 5 + 3, none⟩ = some (.int .i64 xs[m + 1].de) ∧ W.cell? ⟨b, off + (m + 1) * 5 + 4, none⟩ = some (.int .i64 xs[m + 1].ho)))
      have KB := Lib.hid (fun W (h : Below w.heap.size w W) => by
        obtain ⟨b2, off2, cap2, hn2, -, hc2⟩ := (HV.out.below h).at_ hlt2
        simp only [Value.slice.injEq, Option.some.injEq, Addr.mk.injEq] at hn2
        obtain ⟨⟨rfl, rfl, -⟩, -, -⟩ := hn2
        exact (⟨(hc2 m (by omega)).c0, (hc2 m (by omega)).c1, (hc2 m (by omega)).c2, (hc2 m (by omega)).c3, (hc2 m (by omega)).c4⟩ : W.cell? ⟨b, off + m * 5, none⟩ = some (.int .i64 (xs[m]'(by omega)).ki) ∧ W.cell? ⟨b, off + m * 5 + 1, none⟩ = some (.int .i64 (xs[m]'(by omega)).sc) ∧ W.cell? ⟨b, off + m * 5 + 2, none⟩ = some (.int .i64 (xs[m]'(by omega)).qu) ∧ W.cell? ⟨b, off + m * 5 + 3, none⟩ = some (.int .i64 (xs[m]'(by omega)).de) ∧ W.cell? ⟨b, off + m * 5 + 4, none⟩ = some (.int .i64 (xs[m]'(by omega)).ho)))
      have i0 : (0 : Int) ≤ (m : Int) + 1 := by omega
      have i1 : (m : Int) + 1 < (xs.length : Int) := by omega
      have i2 : (0 : Int) ≤ (m : Int) := by omega
      have i3 : (m : Int) < (xs.length : Int) := by omega
      have i4 : IntKind.i64.wrap ((m : Int) + 1 - 1) = (m : Int) := by rw [show (m : Int) + 1 - 1 = m by omega]; exact IntWalk.i64_in _ (by omega)
      have i5 : IntKind.i64.wrap (m : Int) = (m : Int) := IntWalk.i64_in _ (by omega)
      have i6 : wrap64 ((m : Int) + 1 - 1) = (m : Int) := by rw [show (m : Int) + 1 - 1 = m by omega]; exact IntWalk.wrap64_in _ ⟨by omega, by omega⟩
      have i7 : wrap64 (m : Int) = (m : Int) := IntWalk.wrap64_in _ ⟨by omega, by omega⟩
      obtain ⟨c0, c1, c2, c3, c4⟩ := hcc (m + 1) hlt2
      obtain ⟨d0, d1, d2, d3, d4⟩ := hcc m (by omega)
      have C := fun W => Lib.hid (hourCmp_any xs[m + 1] (xs[m]'(by omega)) W)
      have hbdc := Tq.cmp_bd xs[m + 1].ho (xs[m]'(by omega)).ho
      clear hcc
      by_cases ht : xs[m + 1].ho < (xs[m]'(by omega)).ho
      · have hn : Hid (Tq.up 0 xs = false) := Lib.hid (by
          rw [Bool.eq_false_iff]; intro hc
          have h1 := Tq.up_next hc hlt2
          omega)
        have hc0 : Tq.cmp xs[m + 1].ho (xs[m]'(by omega)).ho < 0 := Tq.cmp_neg.2 ht
        clear ht
        generalize Tq.cmp xs[m + 1].ho (xs[m]'(by omega)).ho = q at *
        go_wp2_with fail
        (go_region_held3 (fun w' => w'.cell? ⟨b, off + (m + 1) * 5, none⟩ = some (.int .i64 xs[m + 1].ki) ∧ w'.cell? ⟨b, off + (m + 1) * 5 + 1, none⟩ = some (.int .i64 xs[m + 1].sc) ∧ w'.cell? ⟨b, off + (m + 1) * 5 + 2, none⟩ = some (.int .i64 xs[m + 1].qu) ∧ w'.cell? ⟨b, off + (m + 1) * 5 + 3, none⟩ = some (.int .i64 xs[m + 1].de) ∧ w'.cell? ⟨b, off + (m + 1) * 5 + 4, none⟩ = some (.int .i64 xs[m + 1].ho) ∧ w'.cell? ⟨b, off + m * 5, none⟩ = some (.int .i64 (xs[m]'(by omega)).ki) ∧ w'.cell? ⟨b, off + m * 5 + 1, none⟩ = some (.int .i64 (xs[m]'(by omega)).sc) ∧ w'.cell? ⟨b, off + m * 5 + 2, none⟩ = some (.int .i64 (xs[m]'(by omega)).qu) ∧ w'.cell? ⟨b, off + m * 5 + 3, none⟩ = some (.int .i64 (xs[m]'(by omega)).de) ∧ w'.cell? ⟨b, off + m * 5 + 4, none⟩ = some (.int .i64 (xs[m]'(by omega)).ho)) (go_keep)
          (first | (go_at_call 50; refine (C _).out.mono ?_; rintro e w1 ⟨rfl, b1⟩; have B1 := Lib.hid (bt hb.out (bt (below_drewW _ 1) b1)); obtain ⟨y0, y1, y2, y3, y4⟩ := KA.out w1 B1.out; obtain ⟨z0, z1, z2, z3, z4⟩ := KB.out w1 B1.out; clear b1)))
        go_wp2_with fail
        go_ret
        exact ⟨ret_bool hn.out.symm, B1.out⟩
      · have hc0 : ¬ Tq.cmp xs[m + 1].ho (xs[m]'(by omega)).ho < 0 := fun h => ht (Tq.cmp_neg.1 h)
        have hs2 : Hid (∀ j (hj : j + 1 < xs.length), m + 1 ≤ j + 1 → (xs[j]'(by omega)).ho ≤ xs[j + 1].ho) := Lib.hid (fun j hj h => by
          rcases Nat.eq_or_lt_of_le h with e | e
          · obtain rfl : j = m := by omega
            omega
          · exact hs.out j hj (by omega))
        clear ht hs
        generalize Tq.cmp xs[m + 1].ho (xs[m]'(by omega)).ho = q at *
        go_wp2_with fail
        (go_region_held3 (fun w' => w'.cell? ⟨b, off + (m + 1) * 5, none⟩ = some (.int .i64 xs[m + 1].ki) ∧ w'.cell? ⟨b, off + (m + 1) * 5 + 1, none⟩ = some (.int .i64 xs[m + 1].sc) ∧ w'.cell? ⟨b, off + (m + 1) * 5 + 2, none⟩ = some (.int .i64 xs[m + 1].qu) ∧ w'.cell? ⟨b, off + (m + 1) * 5 + 3, none⟩ = some (.int .i64 xs[m + 1].de) ∧ w'.cell? ⟨b, off + (m + 1) * 5 + 4, none⟩ = some (.int .i64 xs[m + 1].ho) ∧ w'.cell? ⟨b, off + m * 5, none⟩ = some (.int .i64 (xs[m]'(by omega)).ki) ∧ w'.cell? ⟨b, off + m * 5 + 1, none⟩ = some (.int .i64 (xs[m]'(by omega)).sc) ∧ w'.cell? ⟨b, off + m * 5 + 2, none⟩ = some (.int .i64 (xs[m]'(by omega)).qu) ∧ w'.cell? ⟨b, off + m * 5 + 3, none⟩ = some (.int .i64 (xs[m]'(by omega)).de) ∧ w'.cell? ⟨b, off + m * 5 + 4, none⟩ = some (.int .i64 (xs[m]'(by omega)).ho)) (go_keep)
          (first | (go_at_call 50; refine (C _).out.mono ?_; rintro e w1 ⟨rfl, b1⟩; have B1 := Lib.hid (bt hb.out (bt (below_drewW _ 1) b1)); obtain ⟨y0, y1, y2, y3, y4⟩ := KA.out w1 B1.out; obtain ⟨z0, z1, z2, z3, z4⟩ := KB.out w1 B1.out; clear b1)))
        go_wp2_with fail
        exact ⟨⟨m + 1, by omega, by go_num, B1, hs2⟩, by simp only [intOf]; omega⟩
    · have hgt : ¬ (0 : Int) < (k : Int) - 1 := by omega
      have hn : Hid (Tq.up 0 xs = true) := Lib.hid (Tq.up_mk HF.out (fun i hi => hs.out i hi (by omega)))
      go_wp2
      go_ret
      exact ⟨ret_bool hn.out.symm, hb.out⟩
theorem not_anyT (xs : List Tst) : (xs.any fun x => !Tq.okT x) = !xs.all Tq.okT := by
  induction xs with
  | nil => rfl
  | cons x xs ih => rw [List.any_cons, List.all_cons, ih]; cases Tq.okT x <;> simp
theorem wrongT_any (x : Tst) (W0 W : World) (hb : Below W0.heap.size W0 W) (hR : RulesT W0) :
    Calls Tryd.prog 48 (#[.agg #[.int .i64 x.ki, .int .i64 x.sc, .int .i64 x.qu, .int .i64 x.de, .int .i64 x.ho]] ++ #[]) W fun e w' => e = .returned (.bool (!Tq.okT x)) ∧ Below W0.heap.size W0 w' :=
  (testWrong_any x W (hR.below hb)).mono fun _ _ ⟨h, b⟩ => ⟨h, bt hb b⟩
set_option maxHeartbeats 1600000 in
theorem implValidTests_any (w : World) (v : Value) (xs : List Tst) (hv : TeSl w v xs) (hl : xs.length ≤ 1048576) (hR : RulesT w) :
    Calls Tryd.prog 18 #[v] w fun e w' => e = .returned (.bool (Tq.okS xs)) ∧ Below w.heap.size w w' := by
  obtain ⟨a, cap, rfl⟩ := hv.form
  have C := Lib.hid (containsFuncTst_any 48 #[] (enters_of Tryd.func48 (by kernel_rfl) rfl) (fun x => !Tq.okT x) w _ xs hl hv (fun x W hW => wrongT_any x w W hW hR))
  have HV := Lib.hid hv
  clear hR
  by_cases h16 : xs.length ≤ 16
  · have h : ¬ 16 < xs.length := by omega
    clear hv
    cases hq : xs.all Tq.okT with
    | true =>
      have hn : Hid ((xs.any fun x => !Tq.okT x) = false) := Lib.hid (by rw [not_anyT, hq]; rfl)
      have hr : Hid (Tq.okS xs = Tq.up 0 xs) := Lib.hid (by unfold Tq.okS; rw [hq, decide_eq_true h16]; simp)
      have hf : Hid (∀ x ∈ xs, 0 ≤ x.ho) := Lib.hid (fun x hx => ((Tq.okT_iff x).1 (List.all_eq_true.1 hq x hx)).h1)
      rw [hn.out] at C
      clear hq
      go_enter Tryd.func18, Tryd.ntmps18
      go_wp2_with fail
      refine C.out.mono ?_
      rintro e w1 ⟨rfl, b1⟩
      have B1 := Lib.hid b1
      clear b1
      go_wp2_with fail
      refine (sortedTst_any w1 _ xs (HV.out.below B1.out) hl hf.out).mono ?_
      rintro e w2 ⟨rfl, b2⟩
      have B2 := Lib.hid (bt B1.out b2)
      clear b2
      go_wp2_with fail
      go_ret
      exact ⟨ret_bool hr.out.symm, B2.out⟩
    | false =>
      have hn : Hid ((xs.any fun x => !Tq.okT x) = true) := Lib.hid (by rw [not_anyT, hq]; rfl)
      have hr : Hid (Tq.okS xs = false) := Lib.hid (by unfold Tq.okS; rw [hq]; simp)
      rw [hn.out] at C
      clear hq
      go_enter Tryd.func18, Tryd.ntmps18
      go_wp2_with fail
      refine C.out.mono ?_
      rintro e w1 ⟨rfl, b1⟩
      have B1 := Lib.hid b1
      clear b1
      go_wp2_with fail
      go_ret
      exact ⟨ret_bool hr.out.symm, B1.out⟩
  · have h : 16 < xs.length := by omega
    have hn := Lib.hid (Tq.okS_long h)
    clear hv
    go_enter Tryd.func18, Tryd.ntmps18
    go_wp2_with fail
    go_ret
    exact ⟨ret_bool hn.out.symm, Below.refl _ _⟩
end Go.Proofs.YteileaeeiejonaaDoor

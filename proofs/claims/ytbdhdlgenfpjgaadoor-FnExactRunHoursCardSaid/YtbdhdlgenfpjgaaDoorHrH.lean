/-
  The greatest gradient of a layer, and a profile with the forms of its temperatures: by the program. Its condition: impl.formRules holds what the program's text lays.
-/
import Derived.Test.YtbdhdlgenfpjgaaDoorHrF
import Derived.Test.YtbdhdlgenfpjgaaDoorHrL
import Derived.Test.YtbdhdlgenfpjgaaDoorClone
namespace Go.Proofs.YtbdhdlgenfpjgaaDoor
open Go.RowKit Go.Shelf
set_option linter.unusedVariables false
set_option maxRecDepth 100000

theorem La.low_eq {xs : List Lay} {m : Nat} (h : m + 1 < xs.length) : La.low xs (m + 1) = Ar.ab (La.grd xs[m] xs[m + 1]) := by
  unfold La.low
  rw [if_pos (by omega), Nat.add_sub_cancel, La.nth_eq (by omega), La.nth_eq h]
theorem La.low_0 (xs : List Lay) : La.low xs 0 = 0 := rfl
theorem La.upp_eq {xs : List Lay} {k : Nat} (h : k + 1 < xs.length) : La.upp xs k = Ar.ab (La.grd xs[k] xs[k + 1]) := by
  unfold La.upp
  rw [if_pos h, La.nth_eq (by omega), La.nth_eq h]
theorem La.upp_0 {xs : List Lay} {k : Nat} (h : ¬ k + 1 < xs.length) : La.upp xs k = 0 := by
  unfold La.upp; rw [if_neg h]
set_option maxHeartbeats 3200000 in
theorem greatest_any (B b cap : Nat) (w : World) (xs : List Lay) (k : Nat) (ho : LOwn B w (.slice (some ⟨b, 0, none⟩) xs.length cap) xs) (hq : La.okP xs = true) (hk : k < xs.length) :
    Calls Tryd.prog 60 #[.slice (some ⟨b, 0, none⟩) xs.length cap, .int .i64 k] w fun e w' => e = .returned (.int .i64 (La.stp xs k)) ∧ Below w.heap.size w w' := by
  have h16 := ((La.okP_iff xs).1 hq).1
  have HO := Lib.hid ho
  have HQ := Lib.hid hq
  have LB := Lib.hid (La.low_bd hq hk)
  have UB := Lib.hid (La.upp_bd hq hk)
  clear ho hq
  go_enter Tryd.func60, Tryd.ntmps60
  have hk16 : (k : Int) ≤ 16 := by omega
  have hk0 : (0 : Int) ≤ k := by omega
  have START : Hid (∃ m : Nat, max 0 ((k : Int) - 1) = m ∧ ((m + 1 = k ∧ (0 : Int) = 0) ∨ (m = k ∧ (0 : Int) = La.low xs k))) := Lib.hid (by
    rcases k with _ | k
    · exact ⟨0, by omega, Or.inr ⟨rfl, (La.low_0 xs).symm⟩⟩
    · exact ⟨k, by omega, Or.inl ⟨rfl, rfl⟩⟩)
  go_wp2_with fail
  all_goals (
    go_loopw [5, 6] (fun gv iv wr => ∃ (m : Nat) (v : Int), iv = .int .i64 m ∧ gv = .int .i64 v ∧ m ≤ k + 1 ∧ Hid ((m + 1 = k ∧ v = 0) ∨ (m = k ∧ v = La.low xs k) ∨ (m = k + 1 ∧ k + 1 < xs.length ∧ v = La.stp xs k)) ∧ Hid (Below w.heap.size w wr)) (fun _ iv _ => k + 2 - (intOf iv).toNat)
    case atStart =>
      obtain ⟨m, h1, h2⟩ := START.out
      exact ⟨m, 0, by congr 1; omega, rfl, by omega, Lib.hid (by rcases h2 with h | h; exact Or.inl ⟨h.1, rfl⟩; exact Or.inr (Or.inl h)), Lib.hid (Below.refl _ _)⟩
    case round =>
      obtain ⟨m, v, rfl, rfl, hm, hv, hb⟩ := hrel
      have l16 : (xs.length : Int) ≤ 16 := by omega
      have l0 : (0 : Int) ≤ xs.length := by omega
      have nwl : IntKind.i64.wrap ((xs.length : Int) - 2) = (xs.length : Int) - 2 := IntWalk.i64_in _ (by omega)
      by_cases hgo : m + 1 < xs.length ∧ m ≤ k
      · obtain ⟨hm1, hmk⟩ := hgo
        have hm0 : m < xs.length := by omega
        have GB := La.grd_bd (La.fits_at HQ.out hm0) (La.fits_at HQ.out hm1)
        have CG := Lib.hid (fun W => gradientTo_any xs[m] xs[m + 1] W (La.fits_at HQ.out hm0) (La.fits_at HQ.out hm1))
        obtain ⟨c0, c1, c2, c3, c4, c5, c6⟩ := (HO.out.belowAll hb.out).cells hm0
        obtain ⟨d0, d1, d2, d3, d4, d5, d6⟩ := (HO.out.belowAll hb.out).cells hm1
        have NX : Hid (∀ v', v' = max v (Ar.ab (La.grd xs[m] xs[m + 1])) → (m + 1 + 1 = k ∧ v' = 0) ∨ (m + 1 = k ∧ v' = La.low xs k) ∨ (m + 1 = k + 1 ∧ k + 1 < xs.length ∧ v' = La.stp xs k)) := Lib.hid (by
          intro v' hv'
          rcases hv.out with ⟨h1, h2⟩ | ⟨h1, h2⟩ | ⟨h1, h2, h3⟩
          · refine Or.inr (Or.inl ⟨h1, ?_⟩)
            subst h1
            have := La.low_eq hm1
            have := Ar.ab_nonneg (La.grd xs[m] xs[m + 1])
            omega
          · refine Or.inr (Or.inr ⟨by omega, by omega, ?_⟩)
            subst h1
            unfold La.stp
            rw [La.upp_eq hm1, hv', h2]
          · omega)
        have V0 : Hid (0 ≤ v ∧ v ≤ 4000001) := Lib.hid (by
          rcases hv.out with ⟨h1, h2⟩ | ⟨h1, h2⟩ | ⟨h1, h2, h3⟩
          · omega
          · have := LB.out; omega
          · omega)
        obtain ⟨v0, v1⟩ := V0.out
        have e1 : ((m : Int) + 1).toNat = m + 1 := by omega
        have nw : IntKind.i64.wrap ((m : Int) + 1) = (m : Int) + 1 := IntWalk.i64_in _ (by omega)
        have p0 : (0 : Int) ≤ m := by omega
        have p1 : (m : Int) < xs.length := by omega
        have p2 : (m : Int) + 1 < xs.length := by omega
        have p3 : (0 : Int) ≤ (m : Int) + 1 := by omega
        have p4 : (m : Int) ≤ k := by omega
        have p5 : (m : Int) ≤ (xs.length : Int) - 2 := by omega
        have AB : Ar.ab (La.grd xs[m] xs[m + 1]) = if La.grd xs[m] xs[m + 1] < 0 then -La.grd xs[m] xs[m + 1] else La.grd xs[m] xs[m + 1] := rfl
        rw [AB] at NX
        clear AB hv
        generalize La.grd xs[m] xs[m + 1] = gg at *
        obtain ⟨gb0, gb1⟩ := GB
        go_wp2_with fail
        all_goals (
          go_region_with (go_at_call 65; refine (CG.out _).mono ?_; rintro e w3 ⟨rfl, b3⟩)
          all_goals (
            have B3 := Lib.hid (bt hb.out (drew_below b3))
            clear b3
            go_wp2_with fail
            all_goals exact ⟨⟨m + 1, _, by go_num, rfl, by omega, Lib.hid (NX.out _ (by split <;> omega)), B3⟩, by simp only [intOf]; omega⟩))
      · have HE : Hid (v = La.stp xs k) := Lib.hid (by
          rcases hv.out with ⟨h1, h2⟩ | ⟨h1, h2⟩ | ⟨h1, h2, h3⟩
          · omega
          · unfold La.stp
            rw [La.upp_0 (by omega), h2]
            have := LB.out
            omega
          · exact h3)
        have hno : Hid (¬ ((m : Int) ≤ k ∧ (m : Int) ≤ (xs.length : Int) - 2)) := Lib.hid (by omega)
        have hno2 := hno.out
        go_wp2_with fail
        all_goals (
          go_ret
          exact ⟨ret_int HE.out, hb.out⟩))
end Go.Proofs.YtbdhdlgenfpjgaaDoor

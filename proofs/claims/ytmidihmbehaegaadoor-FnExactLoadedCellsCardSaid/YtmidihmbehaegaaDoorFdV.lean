/-
  Fields of chapter 6: valid, equal, added up, shares of wind; by the program and by the model. No condition of its own.
-/
import Derived.Test.YtmidihmbehaegaaDoorFdL
import Derived.Test.YtmidihmbehaegaaDoorFd
import Derived.Test.YtmidihmbehaegaaDoorUnits
namespace Go.Proofs.YtmidihmbehaegaaDoor
open Go.RowKit Go.Shelf Go.Deep
set_option linter.unusedVariables false
set_option maxRecDepth 100000

theorem cell_nn {b : Nat} {w w' : World} {r c : Int} {v : Value} (h : FC w b r c v) : w.cell? ⟨b, 0, none⟩ = some (.int .i64 r) ∧ w.cell? ⟨b, 1, none⟩ = some (.int .i64 c) ∧ w.cell? ⟨b, 2, none⟩ = some v := ⟨h.c0, h.c1, h.c2⟩
theorem FC.three {b : Nat} {w : World} {r c : Int} {v : Value} (h : FC w b r c v) : w.cell? ⟨b, 0, none⟩ = some (.int .i64 r) ∧ w.cell? ⟨b, 1, none⟩ = some (.int .i64 c) ∧ w.cell? ⟨b, 2, none⟩ = some v := ⟨h.c0, h.c1, h.c2⟩

theorem l06Mass_any (x : Int) (w : World) : Calls Tryd.prog 42 #[.int .i64 x] w fun e w' => e = .returned (.bool (Fw.okM x)) ∧ w = w' := by
  go_enter Tryd.func42, Tryd.ntmps42
  go_wp2_with (go_at_call 44; refine (l00In_any _ _ _ _).mono ?_; rintro e w' ⟨rfl, rfl⟩)
  go_ret
  exact ⟨rfl, rfl⟩
theorem isDrift_any (x : Int) (w : World) : Calls Tryd.prog 43 #[.int .i64 x] w fun e w' => e = .returned (.bool (Fw.okM x)) ∧ w = w' := by
  go_enter Tryd.func43, Tryd.ntmps43
  go_wp2_with (go_at_call 56; refine (within_any _ _ _ _).mono ?_; rintro e w' ⟨rfl, rfl⟩)
  go_ret
  exact ⟨rfl, rfl⟩
theorem isFieldSide_any (x : Int) (w : World) : Calls Tryd.prog 62 #[.int .i64 x] w fun e w' => e = .returned (.bool (Ar.inB 1 x 8)) ∧ w = w' := by
  go_enter Tryd.func62, Tryd.ntmps62
  go_wp2_with (go_at_call 56; refine (within_any _ _ _ _).mono ?_; rintro e w' ⟨rfl, rfl⟩)
  go_ret
  exact ⟨rfl, rfl⟩
theorem validMass_any (x : Int) (w W : World) (hW : Below w.heap.size w W) : Calls Tryd.prog 63 (#[.int .i64 x] ++ #[]) W fun e w' => e = .returned (.bool (!Fw.okM x)) ∧ Below w.heap.size w w' := by
  have C := Lib.hid (isDrift_any x W)
  have HW := Lib.hid hW
  clear hW
  generalize Fw.okM x = q at *
  go_enter Tryd.func63, Tryd.ntmps63
  go_wp2_with fail
  refine C.out.mono ?_
  rintro e w' ⟨rfl, rfl⟩
  go_wp2_with fail
  go_ret
  exact ⟨rfl, HW.out⟩
theorem Fw_take_all {zs : List Int} {k : Nat} (h : k < zs.length) (h1 : Fw.okMs (zs.take k) = true) (h2 : Fw.okM zs[k] = true) : Fw.okMs (zs.take (k + 1)) = true := by rw [Fw.okMs_snoc h, h1, h2]; rfl
set_option maxHeartbeats 1600000 in
theorem l06Masses_any (w : World) (b : Nat) (r c : Int) (v : Value) (zs : List Int) (hc : FC w b r c v) (hv : Sl w v zs) (hl : zs.length ≤ 1048576) :
    Calls Tryd.prog 35 #[.pointer (some ⟨b, 0, none⟩)] w fun e w' => e = .returned (.bool (Fw.okMs zs)) ∧ w = w' := by
  obtain ⟨a, cap, rfl⟩ := hv.form
  obtain ⟨c0, c1, c2⟩ := hc
  have HV := Lib.hid hv
  have CM := Lib.hid (fun x W => l06Mass_any x W)
  clear hv c0 c1
  go_enter Tryd.func35, Tryd.ntmps35
  go_wp2
  go_loop [3] (fun i => ∃ k : Nat, k ≤ zs.length ∧ i = .int .i64 k ∧ Hid (Fw.okMs (zs.take k) = true)) (fun i => zs.length - (intOf i).toNat)
  case atStart => exact ⟨0, Nat.zero_le _, rfl, Lib.hid rfl⟩
  case round =>
    obtain ⟨k, hk, rfl, hp⟩ := hrel
    by_cases hlt : k < zs.length
    · obtain ⟨b', off, cap1, hn, hbl, hcc⟩ := HV.out.atI hlt
      simp only [Value.slice.injEq] at hn
      obtain ⟨rfl, -, rfl⟩ := hn
      have k1 := hcc k hlt
      have C := Lib.hid (CM.out zs[k] w)
      clear hcc
      cases hq : Fw.okM zs[k] with
      | true =>
        have hn := Lib.hid (Fw_take_all hlt hp.out hq)
        rw [hq] at C
        clear hq
        generalize zs[k] = z at *
        go_wp2_with fail
        refine C.out.mono ?_
        rintro e w2 ⟨rfl, rfl⟩
        go_wp2_with fail
        exact ⟨⟨k + 1, by omega, by go_num, hn⟩, by simp only [intOf]; omega⟩
      | false =>
        have hn := Lib.hid (Fw.okMs_no hlt hq)
        rw [hq] at C
        clear hq
        generalize zs[k] = z at *
        go_wp2_with fail
        refine C.out.mono ?_
        rintro e w2 ⟨rfl, rfl⟩
        go_wp2_with fail
        go_ret
        exact ⟨ret_bool hn.out.symm, rfl⟩
    · have hkz : k = zs.length := by omega
      have hn : Hid (Fw.okMs zs = true) := Lib.hid (by have := hp.out; rwa [hkz, List.take_length] at this)
      clear hkz
      go_wp2
      go_ret
      exact ⟨ret_bool hn.out.symm, rfl⟩
theorem fits_f1 {r c : Int} {n : Nat} (h : Ar.inB 1 r 8 = false) : Fw.fits r c n = false := by unfold Fw.fits; rw [h]; rfl
theorem fits_f2 {r c : Int} {n : Nat} (h : Ar.inB 1 c 8 = false) : Fw.fits r c n = false := by unfold Fw.fits; rw [h]; simp
theorem fits_f3 {r c : Int} {n : Nat} (h : ¬ (n : Int) = r * c) : Fw.fits r c n = false := by unfold Fw.fits; rw [decide_eq_false h]; simp
theorem fits_t {r c : Int} {n : Nat} (h1 : Ar.inB 1 r 8 = true) (h2 : Ar.inB 1 c 8 = true) (h : (n : Int) = r * c) : Fw.fits r c n = true := by unfold Fw.fits; rw [h1, h2, decide_eq_true h]; rfl
theorem ok_f {r c : Int} {zs : List Int} (h : Fw.fits r c zs.length = false) : Fw.ok r c zs = false := by unfold Fw.ok; rw [h]; rfl
theorem ok_t {r c : Int} {zs : List Int} (h : Fw.fits r c zs.length = true) : Fw.ok r c zs = Fw.okMs zs := by unfold Fw.ok; rw [h]; rfl
/-- the ways through the test of a field's sides -/
theorem sides (r c : Int) (n : Nat) : (Ar.inB 1 r 8 = false ∧ Fw.fits r c n = false) ∨ (Ar.inB 1 r 8 = true ∧ Ar.inB 1 c 8 = false ∧ Fw.fits r c n = false) ∨
    (Ar.inB 1 r 8 = true ∧ Ar.inB 1 c 8 = true ∧ (1 ≤ r * c ∧ r * c ≤ 64) ∧ ((n : Int) != r * c) = true ∧ Fw.fits r c n = false) ∨ (Ar.inB 1 r 8 = true ∧ Ar.inB 1 c 8 = true ∧ (1 ≤ r * c ∧ r * c ≤ 64) ∧ ((n : Int) != r * c) = false ∧ Fw.fits r c n = true) := by
  cases h1 : Ar.inB 1 r 8 with
  | false => exact Or.inl ⟨rfl, fits_f1 h1⟩
  | true =>
    cases h2 : Ar.inB 1 c 8 with
    | false => exact Or.inr (Or.inl ⟨rfl, rfl, fits_f2 h2⟩)
    | true =>
      have b1 : 1 ≤ r ∧ r ≤ 8 := by unfold Ar.inB at h1; simpa using h1
      have b2 : 1 ≤ c ∧ c ≤ 8 := by unfold Ar.inB at h2; simpa using h2
      have hp := Fw.prod_le b1.1 b1.2 b2.1 b2.2
      by_cases h : (n : Int) = r * c
      · exact Or.inr (Or.inr (Or.inr ⟨rfl, rfl, hp, by rw [h]; exact bne_self_eq_false' _, fits_t h1 h2 h⟩))
      · exact Or.inr (Or.inr (Or.inl ⟨rfl, rfl, hp, by rw [bne_iff_ne]; exact h, fits_f3 h⟩))
set_option maxHeartbeats 3200000 in
theorem l06Ok_any (w : World) (b : Nat) (r c : Int) (v : Value) (zs : List Int) (hc : FC w b r c v) (hv : Sl w v zs) (hl : zs.length ≤ 1048576) :
    Calls Tryd.prog 31 #[.pointer (some ⟨b, 0, none⟩)] w fun e w' => e = .returned (.bool (Fw.ok r c zs)) ∧ Below w.heap.size w w' := by
  obtain ⟨a, cap, rfl⟩ := hv.form
  have HC := Lib.hid hc
  have HV := Lib.hid hv
  obtain ⟨c0, c1, c2⟩ := hc
  clear hv
  rcases sides r c zs.length with ⟨h1, hf⟩ | ⟨h1, h2, hf⟩ | ⟨h1, h2, ⟨p1, p2⟩, h3, hf⟩ | ⟨h1, h2, ⟨p1, p2⟩, h3, hf⟩
  · have hr := Lib.hid (ok_f hf)
    clear hf
    go_enter Tryd.func31, Tryd.ntmps31
    go_wp2_with fail
    go_quiet ((go_at_call 44; exact Calls.quiet_of_same ((l00In_any _ _ _ _).mono fun _ _ ⟨h, h'⟩ => ⟨h, h'.symm⟩)))
    go_wp2_with fail
    go_ret
    exact ⟨ret_bool hr.out.symm, below_drewN (Below.refl _ _) _⟩
  · have hr := Lib.hid (ok_f hf)
    clear hf
    go_enter Tryd.func31, Tryd.ntmps31
    go_wp2_with fail
    go_quiet ((go_at_call 44; exact Calls.quiet_of_same ((l00In_any _ _ _ _).mono fun _ _ ⟨h, h'⟩ => ⟨h, h'.symm⟩)))
    go_wp2_with fail
    go_ret
    exact ⟨ret_bool hr.out.symm, below_drewN (Below.refl _ _) _⟩
  · have hr := Lib.hid (ok_f hf)
    have hwr : wrap64 (r * c) = r * c := IntWalk.wrap64_in _ ⟨by omega, by omega⟩
    clear hf
    go_enter Tryd.func31, Tryd.ntmps31
    go_wp2_with fail
    go_quiet ((go_at_call 44; exact Calls.quiet_of_same ((l00In_any _ _ _ _).mono fun _ _ ⟨h, h'⟩ => ⟨h, h'.symm⟩)))
    go_wp2_with fail
    go_ret
    exact ⟨ret_bool hr.out.symm, below_drewN (Below.refl _ _) _⟩
  · have hr := Lib.hid (ok_t hf)
    have hwr : wrap64 (r * c) = r * c := IntWalk.wrap64_in _ ⟨by omega, by omega⟩
    have CS := Lib.hid (fun q => l06Masses_any (w.drewN q) b r c _ zs (HC.out.drewN q) (HV.out.drewN q) hl)
    clear hf
    go_enter Tryd.func31, Tryd.ntmps31
    go_wp2_with fail
    go_quiet ((go_at_call 44; exact Calls.quiet_of_same ((l00In_any _ _ _ _).mono fun _ _ ⟨h, h'⟩ => ⟨h, h'.symm⟩)))
    go_wp2_with fail
    refine (CS.out _).mono ?_
    rintro e w2 ⟨rfl, rfl⟩
    go_wp2_with fail
    go_ret
    exact ⟨ret_bool hr.out.symm, below_drewN (Below.refl _ _) _⟩
theorem not_anyM (zs : List Int) : (!zs.any fun x => !Fw.okM x) = Fw.okMs zs := by unfold Fw.okMs; rw [List.not_any_eq_all_not]; simp
set_option maxHeartbeats 3200000 in
theorem implValidField_any (w : World) (r c : Int) (v : Value) (zs : List Int) (hv : Sl w v zs) (hl : zs.length ≤ 1048576) :
    Calls Tryd.prog 53 #[.agg #[.int .i64 r, .int .i64 c, v]] w fun e w' => e = .returned (.bool (Fw.ok r c zs)) ∧ Below w.heap.size w w' := by
  obtain ⟨a, cap, rfl⟩ := hv.form
  have C1 := fun W => Lib.hid (isFieldSide_any r W)
  have C2 := fun W => Lib.hid (isFieldSide_any c W)
  have HV := Lib.hid hv
  have HB := Lib.hid (boxF_below w r c (.slice a zs.length cap) 26)
  have CF := Lib.hid (containsFuncI_any 63 #[] (enters_of Tryd.func63 (by kernel_rfl) rfl) (fun x => !Fw.okM x) (boxF w r c (.slice a zs.length cap) 26) _ zs hl (hv.below HB.out) (fun x W hW => validMass_any x _ W hW))
  clear hv
  rcases sides r c zs.length with ⟨h1, hf⟩ | ⟨h1, h2, hf⟩ | ⟨h1, h2, ⟨p1, p2⟩, h3, hf⟩ | ⟨h1, h2, ⟨p1, p2⟩, h3, hf⟩
  · have hr := Lib.hid (ok_f hf)
    rw [h1] at C1
    clear h1 hf C2
    go_enter Tryd.func53, Tryd.ntmps53
    go_wp2_with fail
    refine (C1 _).out.mono ?_
    rintro e w1 ⟨rfl, rfl⟩
    go_wp2_with fail
    go_ret
    exact ⟨ret_bool hr.out.symm, HB.out⟩
  · have hr := Lib.hid (ok_f hf)
    rw [h1] at C1
    rw [h2] at C2
    clear h1 h2 hf
    go_enter Tryd.func53, Tryd.ntmps53
    go_wp2_with fail
    refine (C1 _).out.mono ?_
    rintro e w1 ⟨rfl, rfl⟩
    go_wp2_with fail
    refine (C2 _).out.mono ?_
    rintro e w1 ⟨rfl, rfl⟩
    go_wp2_with fail
    go_ret
    exact ⟨ret_bool hr.out.symm, HB.out⟩
  · have hr := Lib.hid (ok_f hf)
    rw [h1] at C1
    rw [h2] at C2
    clear h1 h2 hf
    have hwr : wrap64 (r * c) = r * c := IntWalk.wrap64_in _ ⟨by omega, by omega⟩
    go_enter Tryd.func53, Tryd.ntmps53
    go_wp2_with fail
    refine (C1 _).out.mono ?_
    rintro e w1 ⟨rfl, rfl⟩
    go_wp2_with fail
    refine (C2 _).out.mono ?_
    rintro e w1 ⟨rfl, rfl⟩
    go_wp2_with fail
    go_ret
    exact ⟨ret_bool hr.out.symm, HB.out⟩
  · have hr := Lib.hid (ok_t hf)
    have hn := Lib.hid (not_anyM zs)
    rw [h1] at C1
    rw [h2] at C2
    clear h1 h2 hf
    have hwr : wrap64 (r * c) = r * c := IntWalk.wrap64_in _ ⟨by omega, by omega⟩
    go_enter Tryd.func53, Tryd.ntmps53
    go_wp2_with fail
    refine (C1 _).out.mono ?_
    rintro e w1 ⟨rfl, rfl⟩
    go_wp2_with fail
    refine (C2 _).out.mono ?_
    rintro e w1 ⟨rfl, rfl⟩
    go_wp2_with fail
    refine CF.out.mono ?_
    rintro e w1 ⟨rfl, b1⟩
    generalize (zs.any fun x => !Fw.okM x) = t at *
    have B1 := Lib.hid (bt HB.out b1)
    clear b1
    go_wp2_with fail
    go_ret
    exact ⟨ret_bool (hn.out.trans hr.out.symm), B1.out⟩
/-- are two fields the same? -/
def eqFd (r c : Int) (zs : List Int) (r' c' : Int) (ys : List Int) : Bool := (r == r') && ((c == c') && (zs == ys))
theorem eqFd_f1 {r c r' c' : Int} {zs ys : List Int} (h : (r == r') = false) : eqFd r c zs r' c' ys = false := by unfold eqFd; rw [h]; rfl
theorem eqFd_f2 {r c r' c' : Int} {zs ys : List Int} (h : (c == c') = false) : eqFd r c zs r' c' ys = false := by unfold eqFd; rw [h]; simp
theorem eqFd_t {r c r' c' : Int} {zs ys : List Int} (h : (r == r') = true) (h' : (c == c') = true) : eqFd r c zs r' c' ys = (zs == ys) := by unfold eqFd; rw [h, h']; rfl
theorem sum_snoc {zs : List Int} {k : Nat} (h : k < zs.length) : (zs.take (k + 1)).sum = (zs.take k).sum + zs[k] := by rw [List.take_succ_eq_append_getElem h, List.sum_append]; simp
end Go.Proofs.YtmidihmbehaegaaDoor

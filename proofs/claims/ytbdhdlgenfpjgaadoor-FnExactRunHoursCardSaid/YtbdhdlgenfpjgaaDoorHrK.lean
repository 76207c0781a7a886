/-
  An hour of chapter 5, ChangeForms and StepHour: by the program and by the model. Its condition: impl.formRules holds what the program's text lays.
-/
import Derived.Test.YtbdhdlgenfpjgaaDoorHrJ
import Derived.Test.YtbdhdlgenfpjgaaDoorHrI
import Derived.Test.YtbdhdlgenfpjgaaDoorHrG
namespace Go.Proofs.YtbdhdlgenfpjgaaDoor
open Go.RowKit Go.Shelf
set_option linter.unusedVariables false
set_option maxRecDepth 100000

set_option maxHeartbeats 3200000 in
theorem l05Forms_any (B b cap : Nat) (w : World) (xs : List Lay) (ho : LOwn B w (.slice (some ⟨b, 0, none⟩) xs.length cap) xs) (hq : La.okP xs = true) :
    Calls Tryd.prog 33 #[.slice (some ⟨b, 0, none⟩) xs.length cap] w (RL w (La.chf xs)) := by
  have h16 := ((La.okP_iff xs).1 hq).1
  have C := Lib.hid (l05Own_any B b cap w xs ho (by omega))
  have HO := Lib.hid ho
  have HQ := Lib.hid hq
  clear ho hq
  go_enter Tryd.func33, Tryd.ntmps33
  go_wp2_with fail
  refine C.out.mono ?_
  rintro e w1 ⟨g, cap1, rfl, o1, b1⟩
  have hg := o1.base
  have O1 := Lib.hid o1
  have B1 := Lib.hid b1
  clear o1 b1 C
  go_wp2_with fail
  go_loopw [4] (fun i wr => ∃ k : Nat, k ≤ xs.length ∧ i = .int .i64 k ∧ Hid (LOwn w.heap.size wr (.slice (some ⟨g, 0, none⟩) xs.length cap1) ((La.chf xs).take k ++ xs.drop k)) ∧ Hid (Below w.heap.size w wr)) (fun i _ => xs.length - (intOf i).toNat)
  case atStart => exact ⟨0, Nat.zero_le _, rfl, Lib.hid (by simpa using O1.out), B1⟩
  case round =>
    obtain ⟨k, hk, rfl, ho, hb⟩ := hrel
    by_cases hlt : k < xs.length
    · have hltz : (k : Int) < (xs.length : Int) := by omega
      have hk0 : (0 : Int) ≤ k := by omega
      have CF := Lib.hid (l05Form_any B b cap wr xs k (HO.out.belowAll hb.out) HQ.out hlt)
      have N : Hid (∀ W, LOwn w.heap.size W (.slice (some ⟨g, 0, none⟩) xs.length cap1) ((La.chf xs).take k ++ xs.drop k) → LOwn w.heap.size (W.setCell ⟨g, k * 7, none⟩ (.int .i64 (La.frm xs[k] (La.stp xs k)))) (.slice (some ⟨g, 0, none⟩) xs.length cap1) ((La.chf xs).take (k + 1) ++ xs.drop (k + 1))) := Lib.hid (fun W h => h.form1 hlt rfl)
      generalize La.frm xs[k] (La.stp xs k) = f at *
      go_wp2_with fail
      refine CF.out.mono ?_
      rintro e w2 ⟨rfl, b2⟩
      have ho2 := ho.out.belowAll b2
      have N2 := Lib.hid (N.out _ ho2)
      have HB2 := Lib.hid ((bt hb.out b2).setCell (p := ⟨g, k * 7, none⟩) hg (.int .i64 f))
      obtain ⟨x0, hx0⟩ : ∃ u, w2.cell? ⟨g, k * 7, none⟩ = some u := ⟨_, (ho2.cells (La.fwd_len hlt)).c0⟩
      have fz := ho2.free (k * 7)
      clear b2 ho2
      go_wp2_with fail
      exact ⟨⟨k + 1, by omega, by go_num, N2, HB2⟩, by simp only [intOf]; omega⟩
    · have hkz : k = xs.length := by omega
      subst hkz
      have hnl : ¬ (xs.length : Int) < (xs.length : Int) := by omega
      have HL := Lib.hid (La.chf_len xs)
      go_wp2
      go_ret
      exact RL.yes rfl (by have := ho.out; rw [List.take_of_length_le (by rw [HL.out]; omega), List.drop_length, List.append_nil] at this; exact this) hb.out
theorem top_warm (W : World) (v : Value) (xs : List Lay) (j : Int) (hv : LSl W v xs) (hq : La.okP xs = true) (j0 : 0 ≤ j) (j1 : j ≤ 100000000) :
    Calls Tryd.prog 41 #[v, .int .i64 j, .func (.func 42) #[] #[]] W (RLI W (La.top La.wrm xs j).1 (La.top La.wrm xs j).2.1) := by
  obtain ⟨h16, hfit⟩ := (La.okP_iff xs).1 hq
  refine (fromTop_any 42 (enters_of Tryd.func42 (by kernel_rfl) rfl) La.wrm (fun l _ => 0 ≤ l ∧ l ≤ 100000000) j W v xs h16 hv ⟨j0, j1⟩ (fun x hx l n hn h => by have := La.wrm_ok (hfit x hx) h.1; omega) (fun x hx l n hn h W => warmed_any x l W (hfit x hx) h.1 h.2)).mono ?_
  rintro e w' ⟨rfl, o, b⟩
  exact RLI.yes ⟨rfl, rfl⟩ o b
theorem top_cool (W : World) (v : Value) (xs : List Lay) (j : Int) (hv : LSl W v xs) (hq : La.okP xs = true) (j0 : 0 ≤ j) (j1 : j ≤ 100000000) :
    Calls Tryd.prog 41 #[v, .int .i64 j, .func (.func 43) #[] #[]] W (RLI W (La.top La.coo xs j).1 (La.top La.coo xs j).2.1) := by
  obtain ⟨h16, hfit⟩ := (La.okP_iff xs).1 hq
  refine (fromTop_any 43 (enters_of Tryd.func43 (by kernel_rfl) rfl) La.coo (fun l _ => 0 ≤ l ∧ l ≤ 100000000) j W v xs h16 hv ⟨j0, j1⟩ (fun x hx l n hn h => by have := La.coo_ok (hfit x hx) h.1; omega) (fun x hx l n hn h W => cooled_any x l W (hfit x hx) h.1 h.2)).mono ?_
  rintro e w' ⟨rfl, o, b⟩
  exact RLI.yes ⟨rfl, rfl⟩ o b
theorem top_drain (W : World) (v : Value) (xs : List Lay) (hv : LSl W v xs) (hq : La.okP xs = true) :
    Calls Tryd.prog 41 #[v, .int .i64 0, .func (.func 44) #[] #[]] W (RLI W (La.top La.drn xs 0).1 (La.top La.drn xs 0).2.1) := by
  obtain ⟨h16, hfit⟩ := (La.okP_iff xs).1 hq
  refine (fromTop_any 44 (enters_of Tryd.func44 (by kernel_rfl) rfl) La.drn (fun l n => 0 ≤ l ∧ l ≤ 1000000 * (n : Int)) 0 W v xs h16 hv ⟨Int.le_refl _, by omega⟩ (fun x hx l n hn h => by have := La.drn_ok (hfit x hx) h.1; push_cast; omega) (fun x hx l n hn h W => drained_any x l W (hfit x hx) h.1 (by omega))).mono ?_
  rintro e w' ⟨rfl, o, b⟩
  exact RLI.yes ⟨rfl, rfl⟩ o b
namespace La
theorem heat_p {xs : List Lay} {j : Int} (h : 0 ≤ j) : heat xs j = (top wrm (sal xs) j).1 := by unfold heat; rw [if_pos h]
theorem heat_n {xs : List Lay} {j : Int} (h : ¬ 0 ≤ j) : heat xs j = (top coo (sal xs) (-j)).1 := by unfold heat; rw [if_neg h]
theorem hr_eq (xs : List Lay) (j : Int) : chf (top drn (heat xs j) 0).1 = hrL xs j ∧ (top drn (heat xs j) 0).2.1 = hrR xs j := ⟨rfl, rfl⟩
end La

set_option maxHeartbeats 3200000 in
theorem l05Step_any (B b cap : Nat) (w : World) (xs : List Lay) (j : Int) (ho : LOwn B w (.slice (some ⟨b, 0, none⟩) xs.length cap) xs) (hq : La.okP xs = true) (j0 : -100000000 ≤ j) (j1 : j ≤ 100000000) :
    Calls Tryd.prog 18 #[.slice (some ⟨b, 0, none⟩) xs.length cap, .int .i64 j] w (RLI w (La.hrL xs j) (La.hrR xs j)) := by
  have HS := Lib.hid (La.sal_all hq)
  have HH := Lib.hid (La.heat_all hq j)
  have HD := Lib.hid (La.drn_all HH.out).1
  have HE := Lib.hid (La.hr_eq xs j)
  have C1 := Lib.hid (l05All_any B b cap w xs ho hq)
  clear ho hq
  by_cases hj : 0 ≤ j
  · have HT := Lib.hid (La.heat_p (xs := xs) hj)
    go_enter Tryd.func18, Tryd.ntmps18
    go_wp2_with fail
    refine C1.out.mono ?_
    rintro e w1 ⟨g1, cap1, rfl, o1, b1⟩
    have O1 := Lib.hid o1
    have B1 := Lib.hid b1
    clear o1 b1
    have C2 := Lib.hid (l05Warm_any w.heap.size g1 cap1 w1 (La.sal xs) j O1.out HS.out (by omega) (by omega))
    rw [← HT.out] at C2
    generalize (La.top La.wrm (La.sal xs) j).2.1 = lf at *
    generalize La.heat xs j = hs at *
    go_wp2_with fail
    refine C2.out.mono ?_
    rintro e w2 ⟨g2, cap2, rfl, o2, b2⟩
    have O2 := Lib.hid o2
    have B2 := Lib.hid (bt B1.out b2)
    clear o2 b2 C2 O1
    have C3 := Lib.hid (l05Drain_any w1.heap.size g2 cap2 w2 hs O2.out HH.out)
    generalize (La.top La.drn hs 0).1 = ds at *
    generalize (La.top La.drn hs 0).2.1 = rn at *
    go_wp2_with fail
    refine C3.out.mono ?_
    rintro e w3 ⟨g3, cap3, rfl, o3, b3⟩
    have O3 := Lib.hid o3
    have B3 := Lib.hid (bt B2.out b3)
    clear o3 b3 C3 O2
    have C4 := Lib.hid (l05Forms_any w2.heap.size g3 cap3 w3 ds O3.out HD.out)
    go_wp2_with fail
    refine C4.out.mono ?_
    rintro e w4 ⟨g4, cap4, rfl, o4, b4⟩
    have O4 := Lib.hid (o4.le B3.out.size)
    have B4 := Lib.hid (bt B3.out b4)
    clear o4 b4 C4 O3
    go_wp2_with fail
    go_ret2
    exact RLI.yes ⟨HE.out.1.symm, HE.out.2.symm⟩ O4.out B4.out
  · have HT := Lib.hid (La.heat_n (xs := xs) hj)
    have nwj : IntKind.i64.wrap (-j) = -j := IntWalk.i64_in _ (by omega)
    go_enter Tryd.func18, Tryd.ntmps18
    go_wp2_with fail
    refine C1.out.mono ?_
    rintro e w1 ⟨g1, cap1, rfl, o1, b1⟩
    have O1 := Lib.hid o1
    have B1 := Lib.hid b1
    clear o1 b1
    have C2 := Lib.hid (l05Cool_any w.heap.size g1 cap1 w1 (La.sal xs) (-j) O1.out HS.out (by omega) (by omega))
    rw [← HT.out] at C2
    generalize (La.top La.coo (La.sal xs) (-j)).2.1 = lf at *
    generalize La.heat xs j = hs at *
    go_wp2_with fail
    refine C2.out.mono ?_
    rintro e w2 ⟨g2, cap2, rfl, o2, b2⟩
    have O2 := Lib.hid o2
    have B2 := Lib.hid (bt B1.out b2)
    clear o2 b2 C2 O1
    have C3 := Lib.hid (l05Drain_any w1.heap.size g2 cap2 w2 hs O2.out HH.out)
    generalize (La.top La.drn hs 0).1 = ds at *
    generalize (La.top La.drn hs 0).2.1 = rn at *
    go_wp2_with fail
    refine C3.out.mono ?_
    rintro e w3 ⟨g3, cap3, rfl, o3, b3⟩
    have O3 := Lib.hid o3
    have B3 := Lib.hid (bt B2.out b3)
    clear o3 b3 C3 O2
    have C4 := Lib.hid (l05Forms_any w2.heap.size g3 cap3 w3 ds O3.out HD.out)
    go_wp2_with fail
    refine C4.out.mono ?_
    rintro e w4 ⟨g4, cap4, rfl, o4, b4⟩
    have O4 := Lib.hid (o4.le B3.out.size)
    have B4 := Lib.hid (bt B3.out b4)
    clear o4 b4 C4 O3
    go_wp2_with fail
    go_ret2
    exact RLI.yes ⟨HE.out.1.symm, HE.out.2.symm⟩ O4.out B4.out
set_option maxHeartbeats 3200000 in
theorem hourLater_any (B b cap : Nat) (w : World) (xs : List Lay) (j : Int) (ho : LOwn B w (.slice (some ⟨b, 0, none⟩) xs.length cap) xs) (hq : La.okP xs = true) (j0 : -100000000 ≤ j) (j1 : j ≤ 100000000) (hR : Rules w) :
    Calls Tryd.prog 25 #[.slice (some ⟨b, 0, none⟩) xs.length cap, .int .i64 j] w (RLI w (La.hrL xs j) (La.hrR xs j)) := by
  have HS := Lib.hid (La.sal_all hq)
  have HH := Lib.hid (La.heat_all hq j)
  have HD := Lib.hid (La.drn_all HH.out).1
  have HE := Lib.hid (La.hr_eq xs j)
  have C1 := Lib.hid (settledProfile_any w _ xs ho.sl hq)
  have HR := Lib.hid hR
  clear ho hq hR
  by_cases hj : 0 ≤ j
  · have HT := Lib.hid (La.heat_p (xs := xs) hj)
    go_enter Tryd.func25, Tryd.ntmps25
    go_wp2_with fail
    refine C1.out.mono ?_
    rintro e w1 ⟨g1, cap1, rfl, o1, b1⟩
    have O1 := Lib.hid o1
    have B1 := Lib.hid b1
    clear o1 b1
    have C2 := Lib.hid (top_warm w1 _ (La.sal xs) j O1.out.sl HS.out (by omega) (by omega))
    rw [← HT.out] at C2
    generalize (La.top La.wrm (La.sal xs) j).2.1 = lf at *
    generalize La.heat xs j = hs at *
    go_wp2_with fail
    refine C2.out.mono ?_
    rintro e w2 ⟨g2, cap2, rfl, o2, b2⟩
    have O2 := Lib.hid o2
    have B2 := Lib.hid (bt B1.out b2)
    clear o2 b2 C2 O1
    have C3 := Lib.hid (top_drain w2 _ hs O2.out.sl HH.out)
    generalize (La.top La.drn hs 0).1 = ds at *
    generalize (La.top La.drn hs 0).2.1 = rn at *
    go_wp2_with fail
    refine C3.out.mono ?_
    rintro e w3 ⟨g3, cap3, rfl, o3, b3⟩
    have O3 := Lib.hid o3
    have B3 := Lib.hid (bt B2.out b3)
    clear o3 b3 C3 O2
    have C4 := Lib.hid (changedForms_any w2.heap.size g3 cap3 w3 ds O3.out HD.out (HR.out.below B3.out))
    go_wp2_with fail
    refine C4.out.mono ?_
    rintro e w4 ⟨g4, cap4, rfl, o4, b4⟩
    have O4 := Lib.hid (o4.le B3.out.size)
    have B4 := Lib.hid (bt B3.out b4)
    clear o4 b4 C4 O3
    go_wp2_with fail
    go_ret2
    exact RLI.yes ⟨HE.out.1.symm, HE.out.2.symm⟩ O4.out B4.out
  · have HT := Lib.hid (La.heat_n (xs := xs) hj)
    have nwj : IntKind.i64.wrap (-j) = -j := IntWalk.i64_in _ (by omega)
    go_enter Tryd.func25, Tryd.ntmps25
    go_wp2_with fail
    refine C1.out.mono ?_
    rintro e w1 ⟨g1, cap1, rfl, o1, b1⟩
    have O1 := Lib.hid o1
    have B1 := Lib.hid b1
    clear o1 b1
    have C2 := Lib.hid (top_cool w1 _ (La.sal xs) (-j) O1.out.sl HS.out (by omega) (by omega))
    rw [← HT.out] at C2
    generalize (La.top La.coo (La.sal xs) (-j)).2.1 = lf at *
    generalize La.heat xs j = hs at *
    go_wp2_with fail
    refine C2.out.mono ?_
    rintro e w2 ⟨g2, cap2, rfl, o2, b2⟩
    have O2 := Lib.hid o2
    have B2 := Lib.hid (bt B1.out b2)
    clear o2 b2 C2 O1
    have C3 := Lib.hid (top_drain w2 _ hs O2.out.sl HH.out)
    generalize (La.top La.drn hs 0).1 = ds at *
    generalize (La.top La.drn hs 0).2.1 = rn at *
    go_wp2_with fail
    refine C3.out.mono ?_
    rintro e w3 ⟨g3, cap3, rfl, o3, b3⟩
    have O3 := Lib.hid o3
    have B3 := Lib.hid (bt B2.out b3)
    clear o3 b3 C3 O2
    have C4 := Lib.hid (changedForms_any w2.heap.size g3 cap3 w3 ds O3.out HD.out (HR.out.below B3.out))
    go_wp2_with fail
    refine C4.out.mono ?_
    rintro e w4 ⟨g4, cap4, rfl, o4, b4⟩
    have O4 := Lib.hid (o4.le B3.out.size)
    have B4 := Lib.hid (bt B3.out b4)
    clear o4 b4 C4 O3
    go_wp2_with fail
    go_ret2
    exact RLI.yes ⟨HE.out.1.symm, HE.out.2.symm⟩ O4.out B4.out
namespace La
def shC (xs : List Lay) (j : Int) : Int := if okP xs then (if Ar.inB (-100000000) j 100000000 then 0 else 2) else 1
def shL (xs : List Lay) (j : Int) : List Lay := if okP xs && Ar.inB (-100000000) j 100000000 then hrL xs j else []
def shR (xs : List Lay) (j : Int) : Int := if okP xs && Ar.inB (-100000000) j 100000000 then hrR xs j else 0
theorem sh_1 {xs : List Lay} {j : Int} (h : okP xs = false) : shC xs j = 1 ∧ shL xs j = [] ∧ shR xs j = 0 := by unfold shC shL shR; simp [h]
theorem sh_2 {xs : List Lay} {j : Int} (h : okP xs = true) (h' : Ar.inB (-100000000) j 100000000 = false) : shC xs j = 2 ∧ shL xs j = [] ∧ shR xs j = 0 := by unfold shC shL shR; simp [h, h']
theorem sh_0 {xs : List Lay} {j : Int} (h : okP xs = true) (h' : Ar.inB (-100000000) j 100000000 = true) : shC xs j = 0 ∧ shL xs j = hrL xs j ∧ shR xs j = hrR xs j := by unfold shC shL shR; simp [h, h']
theorem shL_len (xs : List Lay) (j : Int) : (shL xs j).length ≤ 1048576 := by
  unfold shL
  split
  · rename_i h
    rw [Bool.and_eq_true] at h
    rw [hrL_len]; have := ((okP_iff xs).1 h.1).1; omega
  · simp
/-- the model's test of an hour's heat: the greater one of the number and its opposite, as 64 bits have it -/
theorem jabs {j : Int} (w1 : -9223372036854775808 ≤ j) (w2 : j ≤ 9223372036854775807) : Ar.inB 0 (max j (wrap64 (-j))) 100000000 = Ar.inB (-100000000) j 100000000 := by
  have e : wrap64 (-j) = if j = -9223372036854775808 then j else -j := by
    split
    · rename_i h; subst h; unfold wrap64; omega
    · exact IntWalk.wrap64_in (-j) (by omega)
  rw [e]
  unfold Ar.inB
  split <;> (rw [Bool.eq_iff_iff]; simp; omega)
end La
theorem wf_bd {n : Int} (h : (Lit.int .i64 n).wf = true) : -9223372036854775808 ≤ n ∧ n ≤ 9223372036854775807 := by
  simp [Lit.wf, IntKind.min, IntKind.max, IntKind.signed, IntKind.bits] at h; omega
set_option maxHeartbeats 800000 in
theorem isHourlyHeat_any (j : Int) (w : World) : Calls Tryd.prog 39 #[.int .i64 j] w fun e w' => e = .returned (.bool (Ar.inB (-100000000) j 100000000)) ∧ w = w' := by
  have C := Lib.hid (within_any j (-100000000) 100000000 w)
  go_enter Tryd.func39, Tryd.ntmps39
  go_wp2_with fail
  refine C.out.mono ?_
  rintro e w1 ⟨rfl, rfl⟩
  go_wp2_with fail
  go_ret
  exact ⟨rfl, rfl⟩
end Go.Proofs.YtbdhdlgenfpjgaaDoor

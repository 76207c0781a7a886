/-
  RunHours of chapter 5: by the program and by the model. Its condition: impl.formRules holds what the program's text lays.
-/
import Derived.Test.YtbdhdlgenfpjgaaDoorHrK
import Derived.Test.YtbdhdlgenfpjgaaDoorIntF
namespace Go.Proofs.YtbdhdlgenfpjgaaDoor
open Go.RowKit Go.Shelf
set_option linter.unusedVariables false
set_option linter.unusedSimpArgs false
set_option maxRecDepth 100000

namespace La
def jin (j : Int) : Bool := Ar.inB (-100000000) j 100000000
def rhC (xs : List Lay) (js : List Int) : Int := if okP xs then (if js.all jin then (if js.length ≤ 64 then 0 else 7) else 2) else 1
def rhO (xs : List Lay) (js : List Int) : Bool := okP xs && js.all jin && decide (js.length ≤ 64)
def rhL (xs : List Lay) (js : List Int) : List Lay := if rhO xs js then rnL xs js else []
def rhR (xs : List Lay) (js : List Int) : Int := if rhO xs js then rnR xs js else 0
variable {xs : List Lay} {js : List Int}
theorem rh_1 (h : okP xs = false) : rhC xs js = 1 ∧ rhL xs js = [] ∧ rhR xs js = 0 := by unfold rhC rhL rhR rhO; simp [h]
theorem rh_2 (h : okP xs = true) (h' : js.all jin = false) : rhC xs js = 2 ∧ rhL xs js = [] ∧ rhR xs js = 0 := by unfold rhC rhL rhR rhO; rw [h, h']; simp
theorem rh_7 (h : okP xs = true) (h' : js.all jin = true) (h2 : ¬ js.length ≤ 64) : rhC xs js = 7 ∧ rhL xs js = [] ∧ rhR xs js = 0 := by unfold rhC rhL rhR rhO; rw [h, h']; simp [h2]
theorem rh_0 (h : okP xs = true) (h' : js.all jin = true) (h2 : js.length ≤ 64) : rhC xs js = 0 ∧ rhL xs js = rnL xs js ∧ rhR xs js = rnR xs js := by unfold rhC rhL rhR rhO; rw [h, h']; simp [h2]
theorem rnL_len : ∀ (xs : List Lay) (js : List Int), (rnL xs js).length = xs.length
  | _, [] => rfl
  | xs, j :: js => by rw [rnL, rnL_len, hrL_len]
theorem rhL_len (xs : List Lay) (js : List Int) : (rhL xs js).length ≤ 1048576 := by
  unfold rhL
  split
  · rename_i h
    unfold rhO at h
    rw [Bool.and_eq_true, Bool.and_eq_true] at h
    rw [rnL_len]; have := ((okP_iff xs).1 h.1.1).1; omega
  · simp
theorem jin_at {k : Nat} (h : js.all jin = true) (hk : k < js.length) : -100000000 ≤ js[k] ∧ js[k] ≤ 100000000 := by
  have := List.all_eq_true.1 h js[k] (List.getElem_mem hk)
  exact inB_iff.1 this
theorem rn_step {k : Nat} (hk : k < js.length) : rnL xs (js.take (k + 1)) = hrL (rnL xs (js.take k)) js[k] ∧ rnR xs (js.take (k + 1)) = rnR xs (js.take k) + hrR (rnL xs (js.take k)) js[k] := by
  rw [List.take_succ_eq_append_getElem hk, rnL_snoc, rnR_snoc]; exact ⟨rfl, rfl⟩
theorem all_bad {k : Nat} (hk : k < js.length) (h : jin js[k] = false) : js.all jin = false := by
  rw [List.all_eq_false]; exact ⟨js[k], List.getElem_mem hk, by rw [h]; decide⟩
theorem all_yes (h : ∀ j (hj : j < js.length), jin js[j] = true) : js.all jin = true := by
  rw [List.all_eq_true]
  intro z hz
  obtain ⟨j, hj, rfl⟩ := List.getElem_of_mem hz
  exact h j hj
theorem not_anyJ (js : List Int) : (!js.any fun x => !jin x) = js.all jin := by
  induction js with
  | nil => rfl
  | cons x xs ih => rw [List.any_cons, List.all_cons, ← ih]; cases jin x <;> simp
end La
theorem row_wf {w : World} {a : Option Addr} {len cap : Nat} {zs : List Int}
    (h : (a = none ∧ len = 0 ∧ cap = 0 ∧ zs = []) ∨ ∃ x, a = some x ∧ len ≤ cap ∧ cap ≤ maxLen ∧ zs.length = cap ∧ (∀ i, i < zs.length → w.cell? (x.add i) = some (.int .i64 (zs.getD i 0))) ∧ ∀ n ∈ zs, (Lit.int .i64 n).wf = true) :
    ∀ z ∈ zs.take len, -9223372036854775808 ≤ z ∧ z ≤ 9223372036854775807 := by
  intro z hz
  rcases h with ⟨-, -, -, rfl⟩ | ⟨x, -, -, -, -, -, hw⟩
  · simp at hz
  · exact wf_bd (hw z (List.mem_of_mem_take hz))
set_option maxHeartbeats 6400000 in
theorem specRunHours_any (w : World) (v : Value) (xs : List Lay) (u : Value) (js : List Int) (ho : LAt w v xs) (hl : xs.length ≤ 1048576) (hu : Sl w u js) (hl2 : js.length ≤ 1048576) (hwf : ∀ z ∈ js, -9223372036854775808 ≤ z ∧ z ≤ 9223372036854775807) :
    Calls Tryd.prog 5 #[v, u] w (RLIC w (La.rhL xs js) (La.rhR xs js) (La.rhC xs js)) := by
  have C := Lib.hid (l03Ok_any w v xs ho.sl hl)
  obtain ⟨B, b, cap, rfl, ho⟩ := ho
  obtain ⟨a, cap2, rfl⟩ := hu.form
  have HO := Lib.hid ho
  have HU := Lib.hid hu
  have HW := Lib.hid hwf
  clear ho hu hwf
  cases hq : La.okP xs with
  | false =>
    have hr := Lib.hid (La.rh_1 (js := js) hq)
    rw [hq] at C
    clear hq
    go_enter Tryd.func5, Tryd.ntmps5
    go_wp2_with fail
    refine C.out.mono ?_
    rintro e w1 ⟨rfl, rfl⟩
    go_wp2_with fail
    go_ret3
    exact RLIC.no hr.out (Below.refl _ _)
  | true =>
    have HQ := Lib.hid hq
    rw [hq] at C
    clear hq
    go_enter Tryd.func5, Tryd.ntmps5
    go_wp2_with fail
    refine C.out.mono ?_
    rintro e w1 ⟨rfl, rfl⟩
    go_wp2_with fail
    go_loopw [7] (fun i wr => ∃ k : Nat, k ≤ js.length ∧ i = .int .i64 k ∧ Hid (∀ j (hj : j < js.length), j < k → La.jin js[j] = true) ∧ Hid (Below w.heap.size w wr)) (fun i _ => js.length - (intOf i).toNat)
    case atStart => exact ⟨0, Nat.zero_le _, rfl, Lib.hid (fun j _ hj => absurd hj (Nat.not_lt_zero _)), Lib.hid (Below.refl _ _)⟩
    case round =>
      obtain ⟨k, hk, rfl, hp, hb⟩ := hrel
      by_cases hlt : k < js.length
      · have hltz : (k : Int) < (js.length : Int) := by omega
        have hk0 : (0 : Int) ≤ k := by omega
        obtain ⟨b', off, cap1, hn, hbl, hcc⟩ := (HU.out.below hb.out).atI hlt
        simp only [Value.slice.injEq] at hn
        obtain ⟨rfl, -, rfl⟩ := hn
        have c0 := hcc k hlt
        have hj := HW.out js[k] (List.getElem_mem hlt)
        have JB := La.jabs hj.1 hj.2
        obtain ⟨m, hm⟩ : ∃ m, m = wrap64 (-js[k]) := ⟨_, rfl⟩
        rw [← hm] at JB
        obtain ⟨t, ht⟩ : ∃ t, t = max js[k] m := ⟨_, rfl⟩
        rw [← ht] at JB
        have nw1 : IntKind.i64.wrap (-js[k]) = m := by rw [IntWalk.i64_left, hm]
        have nw2 : wrap64 (-js[k]) = m := hm.symm
        have HT : Hid (max js[k] m = t) := Lib.hid ht.symm
        have CJ := Lib.hid (fun W => l05Joules_any t W)
        rw [JB] at CJ
        clear hcc hj hm ht JB
        cases hjn : Ar.inB (-100000000) js[k] 100000000 with
        | true =>
          have HP : Hid (∀ j (hj : j < js.length), j < k + 1 → La.jin js[j] = true) := Lib.hid (fun j hj hjk => by
            by_cases hjk2 : j = k
            · subst hjk2; exact hjn
            · exact hp.out j hj (by omega))
          rw [hjn] at CJ
          clear hjn hp
          generalize js[k] = z at *
          go_wp2_with fail
          go_quiet ((first | (go_at_call 16; exact Calls.quiet_of_same ((l00Max_to _ _ _ _ HT.out).mono fun _ _ ⟨h, h'⟩ => ⟨h, h'.symm⟩)) | (go_at_call 15; exact Calls.quiet_of_same ((CJ.out _).mono fun _ _ ⟨h, h'⟩ => ⟨h, h'.symm⟩))))
          go_wp2_with fail
          exact ⟨⟨k + 1, by omega, by go_num, HP, Lib.hid (by first | exact below_drewN hb.out _ | exact below_drewN (below_drewN hb.out _) _)⟩, by simp only [intOf]; omega⟩
        | false =>
          have hr := Lib.hid (La.rh_2 HQ.out (La.all_bad hlt hjn))
          rw [hjn] at CJ
          clear hjn hp
          generalize js[k] = z at *
          go_wp2_with fail
          go_quiet ((first | (go_at_call 16; exact Calls.quiet_of_same ((l00Max_to _ _ _ _ HT.out).mono fun _ _ ⟨h, h'⟩ => ⟨h, h'.symm⟩)) | (go_at_call 15; exact Calls.quiet_of_same ((CJ.out _).mono fun _ _ ⟨h, h'⟩ => ⟨h, h'.symm⟩))))
          go_wp2_with fail
          go_ret3
          exact RLIC.no hr.out (by first | exact below_drewN hb.out _ | exact below_drewN (below_drewN hb.out _) _)
      · have hkz : k = js.length := by omega
        subst hkz
        have hnl : ¬ (js.length : Int) < (js.length : Int) := by omega
        have HA := Lib.hid (La.all_yes (fun j hj => hp.out j hj hj))
        clear hp
        by_cases h64 : js.length ≤ 64
        · have h64b : ¬ (64 : Int) < js.length := by omega
          have hr := Lib.hid (La.rh_0 HQ.out HA.out h64)
          have hx16 := ((La.okP_iff xs).1 HQ.out).1
          have CO := Lib.hid (l05Own_any B b cap wr xs (HO.out.belowAll hb.out) (by omega))
          go_wp2_with fail
          refine CO.out.mono ?_
          rintro e w2 ⟨g, cap3, rfl, o2, b2⟩
          have O2 : Hid (LOwn w.heap.size w2 (.slice (some ⟨g, 0, none⟩) (La.rnL xs (js.take 0)).length cap3) (La.rnL xs (js.take 0))) := Lib.hid (o2.le hb.out.size)
          have B2 := Lib.hid (bt hb.out b2)
          clear o2 b2 CO
          go_wp2_with fail
          go_loopw [8, 9, 10] (fun o s i wq => ∃ (k g cap3 : Nat), k ≤ js.length ∧ i = .int .i64 k ∧ o = .slice (some ⟨g, 0, none⟩) (La.rnL xs (js.take k)).length cap3 ∧ s = .int .i64 (La.rnR xs (js.take k)) ∧ Hid (LOwn w.heap.size wq (.slice (some ⟨g, 0, none⟩) (La.rnL xs (js.take k)).length cap3) (La.rnL xs (js.take k))) ∧ Hid (Below w.heap.size w wq)) (fun _ _ i _ => js.length - (intOf i).toNat)
          case atStart => exact ⟨0, g, cap3, Nat.zero_le _, rfl, rfl, rfl, O2, B2⟩
          case round =>
            obtain ⟨k, g, cap3, hk, rfl, rfl, rfl, ho, hbq⟩ := hrel
            by_cases hlt : k < js.length
            · have hltz : (k : Int) < (js.length : Int) := by omega
              have hk0 : (0 : Int) ≤ k := by omega
              obtain ⟨b', off, cap1, hn, hbl, hcc⟩ := (HU.out.below hbq.out).atI hlt
              simp only [Value.slice.injEq] at hn
              obtain ⟨rfl, -, rfl⟩ := hn
              have c0 := hcc k hlt
              obtain ⟨z0, z1⟩ := La.jin_at HA.out hlt
              have ST := Lib.hid (La.rn_step (xs := xs) hlt)
              have RB := La.rnR_bd (js.take k) HQ.out
              have hkt : (js.take k).length = k := by rw [List.length_take]; omega
              rw [hkt] at RB
              have OK := La.rnL_all (js.take k) HQ.out
              have HB := La.hrR_bd OK js[k]
              have CS := Lib.hid (l05Step_any w.heap.size g cap3 wr (La.rnL xs (js.take k)) js[k] ho.out OK z0 z1)
              clear hcc OK hkt
              generalize La.rnR xs (js.take k) = r0 at *
              generalize La.rnL xs (js.take k) = ys at *
              generalize La.hrR ys js[k] = r1 at *
              generalize La.hrL ys js[k] = ys1 at *
              generalize js[k] = z at *
              go_wp2_with fail
              refine CS.out.mono ?_
              rintro e w4 ⟨g4, cap4, rfl, o4, b4⟩
              have O4 := Lib.hid (o4.le hbq.out.size)
              have B4 := Lib.hid (bt hbq.out b4)
              clear o4 b4
              have nws : wrap64 (r0 + r1) = r0 + r1 := IntWalk.wrap64_in _ (by omega)
              go_wp2_with fail
              exact ⟨⟨k + 1, g4, cap4, by omega, by go_num, by rw [ST.out.1], by rw [ST.out.2], Lib.hid (by rw [ST.out.1]; exact O4.out), B4⟩, by simp only [intOf]; omega⟩
            · have hkz : k = js.length := by omega
              subst hkz
              have hnl : ¬ (js.length : Int) < (js.length : Int) := by omega
              have ho2 : Hid (LOwn w.heap.size wr (.slice (some ⟨g, 0, none⟩) (La.rnL xs js).length cap3) (La.rnL xs js)) := Lib.hid (by have := ho.out; rwa [List.take_length] at this)
              go_wp2_with fail
              go_ret3
              exact RLIC.yes hr.out ho2.out hbq.out
        · have h64b : (64 : Int) < js.length := by omega
          have hr := Lib.hid (La.rh_7 HQ.out HA.out h64)
          go_wp2_with fail
          go_ret3
          exact RLIC.no hr.out hb.out
set_option maxHeartbeats 800000 in
theorem isTooMuch_any (z : Int) (W0 W : World) (hb : Below W0.heap.size W0 W) :
    Calls Tryd.prog 23 #[.int .i64 z] W fun e w' => e = .returned (.bool (!La.jin z)) ∧ Below W0.heap.size W0 w' := by
  have HB := Lib.hid hb
  have C := fun W => Lib.hid (isHourlyHeat_any z W)
  clear hb
  go_enter Tryd.func23, Tryd.ntmps23
  go_wp2_with fail
  refine (C _).out.mono ?_
  rintro e w1 ⟨rfl, rfl⟩
  go_wp2_with fail
  go_ret
  exact ⟨rfl, HB.out⟩
/-- the code of hours: the profile, the heats, how many -/
def ohC (a b o : Bool) : Int := if a then (if b then (if o then 0 else 7) else 2) else 1
set_option maxHeartbeats 1600000 in
theorem orderedH_any (a b o : Bool) (w : World) : Calls Tryd.prog 20 #[.bool a, .bool b, .bool o] w fun e w' => e = .returned (.int .i64 (ohC a b o)) ∧ w = w' := by
  have C := Lib.hid (statedCode_any a b w)
  cases a <;> cases b <;> cases o <;> (
    unfold stc at C
    unfold ohC
    simp only [if_true, Bool.false_eq_true, if_false] at C ⊢
    go_enter Tryd.func20, Tryd.ntmps20
    go_wp2_with fail
    refine C.out.mono ?_
    rintro e w1 ⟨rfl, rfl⟩
    go_wp2_with fail
    go_ret
    exact ⟨rfl, rfl⟩)
set_option maxHeartbeats 6400000 in
theorem implRunHours_any (w : World) (v : Value) (xs : List Lay) (u : Value) (js : List Int) (ho : LAt w v xs) (hl : xs.length ≤ 1048576) (hu : Sl w u js) (hl2 : js.length ≤ 1048576) (hwf : ∀ z ∈ js, -9223372036854775808 ≤ z ∧ z ≤ 9223372036854775807) (hR : Rules w) :
    Calls Tryd.prog 8 #[v, u] w (RLIC w (La.rhL xs js) (La.rhR xs js) (La.rhC xs js)) := by
  have C := Lib.hid (implValidProfile_any w v xs ho.sl hl)
  obtain ⟨B, b, cap, rfl, ho⟩ := ho
  obtain ⟨a, cap2, rfl⟩ := hu.form
  have HO := Lib.hid ho
  have HU := Lib.hid hu
  have HR := Lib.hid hR
  have CC := Lib.hid (fun W (h : Below w.heap.size w W) => containsFuncI_any 23 #[] (enters_of Tryd.func23 (by kernel_rfl) rfl) (fun z => !La.jin z) W (.slice a js.length cap2) js hl2 (HU.out.below h) (fun z W' hW => isTooMuch_any z W W' hW))
  have HN := Lib.hid (La.not_anyJ js)
  have CS := Lib.hid (fun a b o W => orderedH_any a b o W)
  clear ho hu hwf hR
  generalize hqq : La.okP xs = q at *
  generalize hjj : js.all La.jin = jj at *
  generalize (js.any fun x => !La.jin x) = ja at *
  have HQ := Lib.hid hqq
  have HA := Lib.hid hjj
  clear hqq hjj
  have hST : Hid (∀ W, Below w.heap.size w W → True) := Lib.hid (fun _ _ => trivial)
  cases q with
  | false =>
    have hr := Lib.hid (La.rh_1 (js := js) HQ.out)
    have h1 : Hid (∀ o, ohC false (!ja) o = 1) := Lib.hid (fun o => rfl)
    go_enter Tryd.func8, Tryd.ntmps8
    go_wp2_with fail
    refine C.out.mono ?_
    rintro e w1 ⟨rfl, b1⟩
    have B1 := Lib.hid b1
    clear b1
    go_wp2_with fail
    refine (CC.out _ B1.out).mono ?_
    rintro e w2 ⟨rfl, b2⟩
    have B2 := Lib.hid (bt B1.out b2)
    clear b2
    go_wp2_with fail
    refine (CS.out _ _ _ _).mono ?_
    rintro e w3 ⟨rfl, rfl⟩
    rw [h1.out]
    go_wp2_with fail
    go_ret3
    exact RLIC.no hr.out B2.out
  | true =>
    cases jj with
    | false =>
      have hr := Lib.hid (La.rh_2 HQ.out HA.out)
      have h1 : Hid (∀ o, ohC true (!ja) o = 2) := Lib.hid (fun o => by rw [HN.out]; rfl)
      go_enter Tryd.func8, Tryd.ntmps8
      go_wp2_with fail
      refine C.out.mono ?_
      rintro e w1 ⟨rfl, b1⟩
      have B1 := Lib.hid b1
      clear b1
      go_wp2_with fail
      refine (CC.out _ B1.out).mono ?_
      rintro e w2 ⟨rfl, b2⟩
      have B2 := Lib.hid (bt B1.out b2)
      clear b2
      go_wp2_with fail
      refine (CS.out _ _ _ _).mono ?_
      rintro e w3 ⟨rfl, rfl⟩
      rw [h1.out]
      go_wp2_with fail
      go_ret3
      exact RLIC.no hr.out B2.out
    | true =>
      have h1 : Hid (∀ o, ohC true (!ja) o = if o then 0 else 7) := Lib.hid (fun o => by rw [HN.out]; rfl)
      by_cases h64 : js.length ≤ 64
      · have h64b : decide ((js.length : Int) ≤ 64) = true := decide_eq_true (by omega)
        have h64c : (js.length : Int) ≤ 64 := by omega
        have hr := Lib.hid (La.rh_0 HQ.out HA.out h64)
        have hx16 := ((La.okP_iff xs).1 HQ.out).1
        go_enter Tryd.func8, Tryd.ntmps8
        go_wp2_with fail
        refine C.out.mono ?_
        rintro e w1 ⟨rfl, b1⟩
        have B1 := Lib.hid b1
        clear b1
        go_wp2_with fail
        refine (CC.out _ B1.out).mono ?_
        rintro e w2 ⟨rfl, b2⟩
        have B2 := Lib.hid (bt B1.out b2)
        clear b2
        go_wp2_with fail
        refine (CS.out _ _ _ _).mono ?_
        rintro e w3 ⟨rfl, rfl⟩
        first | rw [h1.out] | rw [h64b, h1.out]
        simp only [h64b, if_true, Bool.false_eq_true, if_false]
        have CO := Lib.hid (clone_own B b cap w2 xs (HO.out.belowAll B2.out) (by omega))
        go_wp2_with fail
        refine CO.out.mono ?_
        rintro e w3 ⟨g, cap3, rfl, o2, b2⟩
        have O2 : Hid (LOwn w.heap.size w3 (.slice (some ⟨g, 0, none⟩) (La.rnL xs (js.take 0)).length cap3) (La.rnL xs (js.take 0))) := Lib.hid (o2.le B2.out.size)
        have B3 := Lib.hid (bt B2.out b2)
        clear o2 b2 CO
        go_wp2_with fail
        go_loopw [4, 5, 26] (fun o s i wq => ∃ (k g cap3 : Nat), k ≤ js.length ∧ i = .int .i64 k ∧ o = .slice (some ⟨g, 0, none⟩) (La.rnL xs (js.take k)).length cap3 ∧ s = .int .i64 (La.rnR xs (js.take k)) ∧ Hid (LOwn w.heap.size wq (.slice (some ⟨g, 0, none⟩) (La.rnL xs (js.take k)).length cap3) (La.rnL xs (js.take k))) ∧ Hid (Below w.heap.size w wq)) (fun _ _ i _ => js.length - (intOf i).toNat)
        case atStart => exact ⟨0, g, cap3, Nat.zero_le _, rfl, rfl, rfl, O2, B3⟩
        case round =>
          obtain ⟨k, g, cap3, hk, rfl, rfl, rfl, ho, hbq⟩ := hrel
          by_cases hlt : k < js.length
          · have hltz : (k : Int) < (js.length : Int) := by omega
            have hk0 : (0 : Int) ≤ k := by omega
            obtain ⟨b', off, cap1, hn, hbl, hcc⟩ := (HU.out.below hbq.out).atI hlt
            simp only [Value.slice.injEq] at hn
            obtain ⟨rfl, -, rfl⟩ := hn
            have c0 := hcc k hlt
            obtain ⟨z0, z1⟩ := La.jin_at HA.out hlt
            have ST := Lib.hid (La.rn_step (xs := xs) hlt)
            have RB := La.rnR_bd (js.take k) HQ.out
            have hkt : (js.take k).length = k := by rw [List.length_take]; omega
            rw [hkt] at RB
            have OK := La.rnL_all (js.take k) HQ.out
            have HB := La.hrR_bd OK js[k]
            have CS2 := Lib.hid (hourLater_any w.heap.size g cap3 wr (La.rnL xs (js.take k)) js[k] ho.out OK z0 z1 (HR.out.below hbq.out))
            clear hcc OK hkt
            generalize La.rnR xs (js.take k) = r0 at *
            generalize La.rnL xs (js.take k) = ys at *
            generalize La.hrR ys js[k] = r1 at *
            generalize La.hrL ys js[k] = ys1 at *
            generalize js[k] = z at *
            go_wp2_with fail
            refine CS2.out.mono ?_
            rintro e w4 ⟨g4, cap4, rfl, o4, b4⟩
            have O4 := Lib.hid (o4.le hbq.out.size)
            have B4 := Lib.hid (bt hbq.out b4)
            clear o4 b4
            have nws : wrap64 (r0 + r1) = r0 + r1 := IntWalk.wrap64_in _ (by omega)
            go_wp2_with fail
            exact ⟨⟨k + 1, g4, cap4, by omega, by go_num, by rw [ST.out.1], by rw [ST.out.2], Lib.hid (by rw [ST.out.1]; exact O4.out), B4⟩, by simp only [intOf]; omega⟩
          · have hkz : k = js.length := by omega
            subst hkz
            have hnl : ¬ (js.length : Int) < (js.length : Int) := by omega
            have ho2 : Hid (LOwn w.heap.size wr (.slice (some ⟨g, 0, none⟩) (La.rnL xs js).length cap3) (La.rnL xs js)) := Lib.hid (by have := ho.out; rwa [List.take_length] at this)
            go_wp2_with fail
            go_ret3
            exact RLIC.yes hr.out ho2.out hbq.out
      · have h64b : decide ((js.length : Int) ≤ 64) = false := decide_eq_false (by omega)
        have hr := Lib.hid (La.rh_7 HQ.out HA.out h64)
        go_enter Tryd.func8, Tryd.ntmps8
        go_wp2_with fail
        refine C.out.mono ?_
        rintro e w1 ⟨rfl, b1⟩
        have B1 := Lib.hid b1
        clear b1
        go_wp2_with fail
        refine (CC.out _ B1.out).mono ?_
        rintro e w2 ⟨rfl, b2⟩
        have B2 := Lib.hid (bt B1.out b2)
        clear b2
        go_wp2_with fail
        refine (CS.out _ _ _ _).mono ?_
        rintro e w3 ⟨rfl, rfl⟩
        first | rw [h1.out] | rw [h64b, h1.out]
        simp only [h64b, if_true, Bool.false_eq_true, if_false]
        go_wp2_with fail
        go_ret3
        exact RLIC.no hr.out B2.out
end Go.Proofs.YtbdhdlgenfpjgaaDoor

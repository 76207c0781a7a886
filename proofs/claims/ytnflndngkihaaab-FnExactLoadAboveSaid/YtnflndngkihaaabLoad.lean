/-
  LoadAbove and LayerAt of chapter 3, by the program and by the model. No condition of its own.
-/
import Derived.Test.YtnflndngkihaaabSum3
namespace Go.Proofs.Ytnflndngkihaaab
open Go.RowKit Go.Shelf
set_option linter.unusedVariables false

/-- a part of a row of the call's own: the layers above one -/
theorem LOwn.tail {B : Nat} {w : World} {g cap n : Nat} {xs : List Lay} (h : LOwn B w (.slice (some ⟨g, 0, none⟩) n cap) xs) {k : Nat} (hk : k < xs.length) :
    LSl w (.slice (some ⟨g, (k + 1) * 7, none⟩) (xs.length - (k + 1)) (cap - (k + 1))) (xs.drop (k + 1)) := by
  rcases h.sl with ⟨rfl, _⟩ | ⟨b, off, cap', hv, hlt, hc⟩
  · cases hk
  · simp only [Value.slice.injEq, Option.some.injEq, Addr.mk.injEq, and_true] at hv
    obtain ⟨⟨rfl, rfl⟩, hn, rfl⟩ := hv
    refine Or.inr ⟨g, (k + 1) * 7, cap - (k + 1), by rw [List.length_drop], hlt, fun j z hz => ?_⟩
    have e : (La.fl xs)[7 * (k + 1) + j]? = some z := by
      have h1 : La.fl xs = La.fl (xs.take (k + 1)) ++ La.fl (xs.drop (k + 1)) := by rw [← La.fl_app, List.take_append_drop]
      have h2 : (La.fl (xs.take (k + 1))).length = 7 * (k + 1) := by rw [La.fl_length, List.length_take]; omega
      rw [h1, List.getElem?_append_right (by omega), h2, Nat.add_sub_cancel_left]
      exact hz
    have := hc _ z e
    rw [Nat.zero_add] at this
    rw [show (k + 1) * 7 + j = 7 * (k + 1) + j by omega]; exact this
theorem own_cap {B : Nat} {w : World} {g cap n : Nat} {xs : List Lay} (h : LOwn B w (.slice (some ⟨g, 0, none⟩) n cap) xs) : n = xs.length ∧ n ≤ cap ∧ cap ≤ maxLen := by
  have hl := h.1
  rcases h.2 with ⟨hv, _⟩ | ⟨g', cap', cur, hv, _, _, hnc, hcm, _, _⟩
  · cases hv
  · simp only [Value.slice.injEq] at hv
    obtain ⟨_, rfl, rfl⟩ := hv
    exact ⟨rfl, hnc, hcm⟩
theorem LOwn.form {B : Nat} {w : World} {v : Value} {xs : List Lay} (h : LOwn B w v xs) (hn : 0 < xs.length) : ∃ g cap, v = .slice (some ⟨g, 0, none⟩) xs.length cap := by
  rcases Go.Joins.ownsRow_forms h with ⟨rfl, h0⟩ | ⟨g, cap, rfl⟩
  · omega
  · exact ⟨g, cap, rfl⟩
theorem sm_mass (xs : List Lay) : La.sm La.mass xs = La.sm Lay.ic xs + La.sm Lay.wa xs := by
  induction xs with
  | nil => rfl
  | cons x xs ih => rw [La.sm_cons, La.sm_cons, La.sm_cons, ih]; unfold La.mass; omega
theorem fit_drop {xs : List Lay} {k : Nat} (h : ∀ x ∈ xs, La.Fits x) : ∀ x ∈ xs.drop k, La.Fits x := fun x hx => h x (List.mem_of_mem_drop hx)
theorem mass_bd {x : Lay} (h : La.Fits x) : 0 ≤ La.mass x ∧ La.mass x ≤ 100000000 := by
  have := h.i1; have := h.i2; have := h.w1; have := h.w2
  unfold La.mass; omega
/-- the code of a question for a layer, and the load above it -/
def askC (xs : List Lay) (k : Int) : Int := if La.okP xs then (if Ar.inB 0 k (xs.length - 1) then 0 else 2) else 1
def loadV (xs : List Lay) (k : Int) : Int := if La.okP xs && Ar.inB 0 k (xs.length - 1) then La.sm La.mass (xs.drop (k.toNat + 1)) else 0
theorem ask_0 {xs : List Lay} {k : Int} (h : La.okP xs = true) (h' : Ar.inB 0 k (xs.length - 1) = true) : askC xs k = 0 := by unfold askC; rw [h, h']; rfl
theorem ask_1 {xs : List Lay} {k : Int} (h : La.okP xs = false) : askC xs k = 1 := by unfold askC; rw [h]; rfl
theorem ask_2 {xs : List Lay} {k : Int} (h : La.okP xs = true) (h' : Ar.inB 0 k (xs.length - 1) = false) : askC xs k = 2 := by unfold askC; rw [h, h']; rfl
theorem load_0 {xs : List Lay} {k : Nat} (h : La.okP xs = true) (h' : Ar.inB 0 (k : Int) (xs.length - 1) = true) : loadV xs k = La.sm La.mass (xs.drop (k + 1)) := by unfold loadV; rw [h, h']; rfl
theorem load_1 {xs : List Lay} {k : Int} (h : La.okP xs = false) : loadV xs k = 0 := by unfold loadV; rw [h]; rfl
theorem load_2 {xs : List Lay} {k : Int} (h : Ar.inB 0 k (xs.length - 1) = false) : loadV xs k = 0 := by unfold loadV; rw [h]; simp
set_option maxHeartbeats 800000 in
theorem l03Load_any (B : Nat) (w : World) (g cap n : Nat) (xs : List Lay) (k : Nat) (hk : k < xs.length) (hq : La.okP xs = true) (ho : LOwn B w (.slice (some ⟨g, 0, none⟩) n cap) xs) :
    Calls Try.prog 57 #[.slice (some ⟨g, 0, none⟩) n cap, .int .i64 k] w fun e w' => e = .returned (.int .i64 (La.sm La.mass (xs.drop (k + 1)))) ∧ w = w' := by
  obtain ⟨h16, hfit⟩ := (La.okP_iff xs).1 hq
  obtain ⟨hn, hc1, hc2⟩ := own_cap ho
  unfold maxLen at hc2
  have HT := ho.tail hk
  have hd : (xs.drop (k + 1)).length ≤ 16 := by rw [List.length_drop]; omega
  have HF := Lib.hid (fit_drop (k := k + 1) hfit)
  have hm := Lib.hid (sm_mass (xs.drop (k + 1)))
  obtain ⟨i1, i2⟩ := La.sm_bd (f := Lay.ic) (m := 1000000) (fun x hx => ⟨by have := (HF.out x hx).i1; omega, (HF.out x hx).i2⟩)
  obtain ⟨a1, a2⟩ := La.sm_bd (f := Lay.wa) (m := 1000000) (fun x hx => ⟨(HF.out x hx).w1, (HF.out x hx).w2⟩)
  have j2 : La.sm Lay.ic (xs.drop (k + 1)) ≤ 100000000 := by omega
  have b2 : La.sm Lay.wa (xs.drop (k + 1)) ≤ 100000000 := by omega
  clear i2 a2 ho hq hfit
  by_cases hb : cap = k + 1
  · have hnk : n = k + 1 := by omega
    subst hb hnk
    have hz : (xs.drop (k + 1)) = [] := List.drop_eq_nil_of_le (by omega)
    have HT2 : LSl w (.slice (some ⟨g, 0, none⟩) 0 0) (xs.drop (k + 1)) := Or.inl ⟨hz, _, _, rfl⟩
    have C := Lib.hid (l03Mass_any w _ _ hd HF.out HT2)
    clear HT HT2 hz hn
    generalize xs.drop (k + 1) = ys at *
    go_enter Try.func57, Try.ntmps57
    go_wp2_with fail
    refine C.out.mono ?_
    rintro e w1 ⟨rfl, rfl⟩
    go_wp2_with fail
    go_ret
    exact ⟨ret_int hm.out.symm, rfl⟩
  · subst hn
    have C := Lib.hid (l03Mass_any w _ _ hd HF.out HT)
    clear HT
    generalize xs.drop (k + 1) = ys at *
    go_enter Try.func57, Try.ntmps57
    go_wp2_with fail
    refine C.out.mono ?_
    rintro e w1 ⟨rfl, rfl⟩
    go_wp2_with fail
    go_ret
    exact ⟨ret_int hm.out.symm, rfl⟩
set_option maxHeartbeats 800000 in
theorem l03Ask_any (w : World) (v : Value) (xs : List Lay) (k : Int) (hv : LSl w v xs) (hl : xs.length ≤ 1048576) :
    Calls Try.prog 56 #[v, .int .i64 k] w fun e w' => e = .returned (.int .i64 (askC xs k)) ∧ w = w' := by
  have C1 := Lib.hid (l03Ok_any w v xs hv hl)
  obtain ⟨a, cap, rfl⟩ := hv.form
  cases hq : La.okP xs with
  | true =>
    have C2 := fun W => Lib.hid (l00In_any k 0 (xs.length - 1) W)
    rw [hq] at C1
    cases hi : Ar.inB 0 k (xs.length - 1) with
    | true =>
      have hr := Lib.hid (ask_0 hq hi)
      rw [hi] at C2
      clear hq hi hv
      go_enter Try.func56, Try.ntmps56
      go_wp2_with fail
      refine C1.out.mono ?_
      rintro e w1 ⟨rfl, rfl⟩
      go_wp2_with fail
      refine (C2 _).out.mono ?_
      rintro e w1 ⟨rfl, rfl⟩
      go_wp2_with fail
      go_ret
      exact ⟨ret_int hr.out.symm, rfl⟩
    | false =>
      have hr := Lib.hid (ask_2 hq hi)
      rw [hi] at C2
      clear hq hi hv
      go_enter Try.func56, Try.ntmps56
      go_wp2_with fail
      refine C1.out.mono ?_
      rintro e w1 ⟨rfl, rfl⟩
      go_wp2_with fail
      refine (C2 _).out.mono ?_
      rintro e w1 ⟨rfl, rfl⟩
      go_wp2_with fail
      go_ret
      exact ⟨ret_int hr.out.symm, rfl⟩
  | false =>
    have hr := Lib.hid (ask_1 (k := k) hq)
    rw [hq] at C1
    clear hq hv
    go_enter Try.func56, Try.ntmps56
    go_wp2_with fail
    refine C1.out.mono ?_
    rintro e w1 ⟨rfl, rfl⟩
    go_wp2_with fail
    go_ret
    exact ⟨ret_int hr.out.symm, rfl⟩
theorem nat_of_in {k : Int} {n : Nat} (h : Ar.inB 0 k ((n : Int) - 1) = true) : ∃ j : Nat, k = j ∧ j < n := by
  obtain ⟨h1, h2⟩ := La.inB_iff.1 h
  obtain ⟨j, rfl⟩ := Int.eq_ofNat_of_zero_le h1
  exact ⟨j, rfl, by omega⟩
set_option maxHeartbeats 800000 in
theorem specLoadAbove_any (B : Nat) (w : World) (v : Value) (xs : List Lay) (k : Int) (ho : LOwn B w v xs) (hl : xs.length ≤ 1048576) :
    Calls Try.prog 27 #[v, .int .i64 k] w fun e w' => e = .returned (.tuple #[.int .i64 (loadV xs k), .int .i64 (askC xs k)]) ∧ Below w.heap.size w w' := by
  have C1 := Lib.hid (l03Ask_any w v xs k ho.sl hl)
  cases hq : La.okP xs with
  | true =>
    cases hi : Ar.inB 0 k (xs.length - 1) with
    | true =>
      obtain ⟨j, rfl, hj⟩ := nat_of_in hi
      obtain ⟨g, cap, rfl⟩ := ho.form (by omega)
      have hr := Lib.hid (ask_0 hq hi)
      have hld := Lib.hid (load_0 hq hi)
      have C2 := Lib.hid (l03Load_any B w g cap _ xs j hj hq ho)
      rw [ask_0 hq hi] at C1
      clear hq hi ho
      go_enter Try.func27, Try.ntmps27
      go_wp2_with fail
      refine C1.out.mono ?_
      rintro e w1 ⟨rfl, rfl⟩
      go_wp2_with fail
      refine C2.out.mono ?_
      rintro e w1 ⟨rfl, rfl⟩
      go_wp2_with fail
      go_ret2
      exact ⟨ret_ii hld.out.symm hr.out.symm, Below.refl _ _⟩
    | false =>
      have hr := Lib.hid (ask_2 hq hi)
      have hld := Lib.hid (load_2 hi)
      rw [ask_2 hq hi] at C1
      clear hq hi ho
      go_enter Try.func27, Try.ntmps27
      go_wp2_with fail
      refine C1.out.mono ?_
      rintro e w1 ⟨rfl, rfl⟩
      go_wp2_with fail
      go_ret2
      exact ⟨ret_ii hld.out.symm hr.out.symm, Below.refl _ _⟩
  | false =>
    have hr := Lib.hid (ask_1 (k := k) hq)
    have hld := Lib.hid (load_1 (k := k) hq)
    rw [ask_1 hq] at C1
    clear hq ho
    go_enter Try.func27, Try.ntmps27
    go_wp2_with fail
    refine C1.out.mono ?_
    rintro e w1 ⟨rfl, rfl⟩
    go_wp2_with fail
    go_ret2
    exact ⟨ret_ii hld.out.symm hr.out.symm, Below.refl _ _⟩
set_option maxHeartbeats 400000 in
theorem isIndex_any (w : World) (a : Option Addr) (n cap : Nat) (k : Int) (hl : n ≤ 1048576) :
    Calls Try.prog 59 #[.int .i64 k, .slice a n cap] w fun e w' => e = .returned (.bool (Ar.inB 0 k (n - 1))) ∧ w = w' := by
  have C := fun W => Lib.hid (within_any k 0 (n - 1) W)
  go_enter Try.func59, Try.ntmps59
  go_wp2_with fail
  refine (C _).out.mono ?_
  rintro e w1 ⟨rfl, rfl⟩
  go_wp2_with fail
  go_ret
  exact ⟨rfl, rfl⟩
set_option maxHeartbeats 1600000 in
theorem implLoadAbove_any (B : Nat) (w : World) (v : Value) (xs : List Lay) (k : Int) (ho : LOwn B w v xs) (hl : xs.length ≤ 1048576) :
    Calls Try.prog 28 #[v, .int .i64 k] w fun e w' => e = .returned (.tuple #[.int .i64 (loadV xs k), .int .i64 (askC xs k)]) ∧ Below w.heap.size w w' := by
  have C1 := Lib.hid (implValidProfile_any w v xs ho.sl hl)
  cases hq : La.okP xs with
  | true =>
    obtain ⟨h16, hfit⟩ := (La.okP_iff xs).1 hq
    cases hi : Ar.inB 0 k (xs.length - 1) with
    | true =>
      obtain ⟨j, rfl, hj⟩ := nat_of_in hi
      obtain ⟨g, cap, rfl⟩ := ho.form (by omega)
      have C2 := fun W => Lib.hid (isIndex_any W (some ⟨g, 0, none⟩) xs.length cap (j : Int) hl)
      have hr := Lib.hid (ask_0 hq hi)
      have hld := Lib.hid (load_0 hq hi)
      obtain ⟨-, hc1, hc2⟩ := own_cap ho
      unfold maxLen at hc2
      have hd : (xs.drop (j + 1)).length ≤ 16 := by rw [List.length_drop]; omega
      have HF := Lib.hid (fit_drop (k := j + 1) hfit)
      have S : Hid (∀ W v, LSl W v (xs.drop (j + 1)) → Calls Try.prog 60 #[v, .func (.func 61) #[] #[]] W fun e w' => e = .returned (.int .i64 (La.sm La.mass (xs.drop (j + 1)))) ∧ Below W.heap.size W w') :=
        Lib.hid (fun W v h => sumOf_any 61 (enters_of Try.func61 (by kernel_rfl) rfl) La.mass W v _ hd h (fun x hx => mass_bd (HF.out x hx)) (fun x hx W => mass_any x W (HF.out x hx)))
      have HT := Lib.hid (ho.tail hj)
      have hlen := xs.length_drop (i := j + 1)
      have hz : Hid (cap = j + 1 → xs.drop (j + 1) = []) := Lib.hid (fun h => List.drop_eq_nil_of_le (by omega))
      rw [hq] at C1
      rw [hi] at C2
      clear hq hi ho hfit
      generalize hxl : xs.length = n at *
      have HX := Lib.hid hxl
      clear hxl
      generalize xs.drop (j + 1) = ys at *
      by_cases hb : cap = j + 1
      · have hn : n = j + 1 := by omega
        subst hb hn
        have HZ := hz.out rfl
        subst HZ
        go_enter Try.func28, Try.ntmps28
        go_wp2_with fail
        refine C1.out.mono ?_
        rintro e w1 ⟨rfl, b1⟩
        have B1 := Lib.hid b1
        clear b1
        go_wp2_with fail
        refine (C2 _).out.mono ?_
        rintro e w2 ⟨rfl, rfl⟩
        go_wp2_with fail
        refine (S.out _ _ (Or.inl ⟨rfl, _, _, rfl⟩)).mono ?_
        rintro e w3 ⟨rfl, b3⟩
        have B3 := Lib.hid (bt B1.out b3)
        clear b3
        go_wp2_with fail
        go_ret2
        exact ⟨ret_ii hld.out.symm hr.out.symm, B3.out⟩
      · clear hlen
        go_enter Try.func28, Try.ntmps28
        go_wp2_with fail
        refine C1.out.mono ?_
        rintro e w1 ⟨rfl, b1⟩
        have B1 := Lib.hid b1
        clear b1
        go_wp2_with fail
        refine (C2 _).out.mono ?_
        rintro e w2 ⟨rfl, rfl⟩
        go_wp2_with fail
        refine (S.out _ _ (HT.out.below B1.out)).mono ?_
        rintro e w3 ⟨rfl, b3⟩
        have B3 := Lib.hid (bt B1.out b3)
        clear b3
        go_wp2_with fail
        go_ret2
        exact ⟨ret_ii hld.out.symm hr.out.symm, B3.out⟩
    | false =>
      obtain ⟨a, cap, rfl⟩ := ho.sl.form
      have C2 := fun W => Lib.hid (isIndex_any W a xs.length cap k hl)
      have hr := Lib.hid (ask_2 hq hi)
      have hld := Lib.hid (load_2 hi)
      rw [hq] at C1
      rw [hi] at C2
      clear hq hi ho hfit
      go_enter Try.func28, Try.ntmps28
      go_wp2_with fail
      refine C1.out.mono ?_
      rintro e w1 ⟨rfl, b1⟩
      have B1 := Lib.hid b1
      clear b1
      go_wp2_with fail
      refine (C2 _).out.mono ?_
      rintro e w2 ⟨rfl, rfl⟩
      go_wp2_with fail
      go_ret2
      exact ⟨ret_ii hld.out.symm hr.out.symm, B1.out⟩
  | false =>
    have hr := Lib.hid (ask_1 (k := k) hq)
    have hld := Lib.hid (load_1 (k := k) hq)
    rw [hq] at C1
    clear hq ho
    go_enter Try.func28, Try.ntmps28
    go_wp2_with fail
    refine C1.out.mono ?_
    rintro e w1 ⟨rfl, b1⟩
    have B1 := Lib.hid b1
    clear b1
    go_wp2_with fail
    go_ret2
    exact ⟨ret_ii hld.out.symm hr.out.symm, B1.out⟩
end Go.Proofs.Ytnflndngkihaaab

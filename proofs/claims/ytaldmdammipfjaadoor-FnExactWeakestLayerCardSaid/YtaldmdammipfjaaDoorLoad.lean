/-
  LoadAbove and LayerAt of chapter 3, by the program and by the model. No condition of its own.
-/
import Derived.Test.YtaldmdammipfjaaDoorSum3
namespace Go.Proofs.YtaldmdammipfjaaDoor
open Go.RowKit Go.Shelf
set_option linter.unusedVariables false
set_option maxRecDepth 100000

/-- a part of a row of the call's own: the layers above one -/
theorem LOwn.tail {B : Nat} {w : World} {g cap n : Nat} {xs : List Lay} (h : LOwn B w (.slice (some ⟨g, 0, none⟩) n cap) xs) {k : Nat} (hk : k < xs.length) :
    LSl w (.slice (some ⟨g, (k + 1) * 7, none⟩) (xs.length - (k + 1)) (cap - (k + 1))) (xs.drop (k + 1)) := by
  rcases h.sl with ⟨rfl, _⟩ | ⟨b, off, cap', hv, hlt, hc⟩
  · cases hk
  · simp only [Value.slice.injEq, Option.some.injEq, Addr.mk.injEq, and_true] at hv
    obtain ⟨⟨rfl, rfl⟩, hn, rfl⟩ := hv
    refine Or.inr ⟨g, (k + 1) * 7, cap - (k + 1), by rw [List.length_drop], hlt, fun j z hz => ?_⟩
    have e : (La.fl xs)[7 * (k + 1) + j]? = some z := by
      have h1 : La.fl xs = La.fl (xs.take (k + 1)) ++ La.fl (xs.drop (k + 1)) := by rw [← La.fl_app, List.take_append_drop]
      have h2 : (La.fl (xs.take (k + 1))).length = 7 * (k + 1) := by rw [La.fl_length, List.length_take]; omega
      rw [h1, List.getElem?_append_right (by omega), h2, Nat.add_sub_cancel_left]
      exact hz
    have := hc _ z e
    rw [Nat.zero_add] at this
    rw [show (k + 1) * 7 + j = 7 * (k + 1) + j by omega]; exact this
theorem own_cap {B : Nat} {w : World} {g cap n : Nat} {xs : List Lay} (h : LOwn B w (.slice (some ⟨g, 0, none⟩) n cap) xs) : n = xs.length ∧ n ≤ cap ∧ cap ≤ maxLen := by
  have hl := h.1
  rcases h.2 with ⟨hv, _⟩ | ⟨g', cap', cur, hv, _, _, hnc, hcm, _, _⟩
  · cases hv
  · simp only [Value.slice.injEq] at hv
    obtain ⟨_, rfl, rfl⟩ := hv
    exact ⟨rfl, hnc, hcm⟩
theorem LOwn.form {B : Nat} {w : World} {v : Value} {xs : List Lay} (h : LOwn B w v xs) (hn : 0 < xs.length) : ∃ g cap, v = .slice (some ⟨g, 0, none⟩) xs.length cap := by
  rcases Go.Joins.ownsRow_forms h with ⟨rfl, h0⟩ | ⟨g, cap, rfl⟩
  · omega
  · exact ⟨g, cap, rfl⟩
theorem sm_mass (xs : List Lay) : La.sm La.mass xs = La.sm Lay.ic xs + La.sm Lay.wa xs := by
  induction xs with
  | nil => rfl
  | cons x xs ih => rw [La.sm_cons, La.sm_cons, La.sm_cons, ih]; unfold La.mass; omega
theorem fit_drop {xs : List Lay} {k : Nat} (h : ∀ x ∈ xs, La.Fits x) : ∀ x ∈ xs.drop k, La.Fits x := fun x hx => h x (List.mem_of_mem_drop hx)
theorem mass_bd {x : Lay} (h : La.Fits x) : 0 ≤ La.mass x ∧ La.mass x ≤ 100000000 := by
  have := h.i1; have := h.i2; have := h.w1; have := h.w2
  unfold La.mass; omega
/-- the code of a question for a layer, and the load above it -/
def askC (xs : List Lay) (k : Int) : Int := if La.okP xs then (if Ar.inB 0 k (xs.length - 1) then 0 else 2) else 1
def loadV (xs : List Lay) (k : Int) : Int := if La.okP xs && Ar.inB 0 k (xs.length - 1) then La.sm La.mass (xs.drop (k.toNat + 1)) else 0
theorem ask_0 {xs : List Lay} {k : Int} (h : La.okP xs = true) (h' : Ar.inB 0 k (xs.length - 1) = true) : askC xs k = 0 := by unfold askC; rw [h, h']; rfl
theorem ask_1 {xs : List Lay} {k : Int} (h : La.okP xs = false) : askC xs k = 1 := by unfold askC; rw [h]; rfl
theorem ask_2 {xs : List Lay} {k : Int} (h : La.okP xs = true) (h' : Ar.inB 0 k (xs.length - 1) = false) : askC xs k = 2 := by unfold askC; rw [h, h']; rfl
theorem load_0 {xs : List Lay} {k : Nat} (h : La.okP xs = true) (h' : Ar.inB 0 (k : Int) (xs.length - 1) = true) : loadV xs k = La.sm La.mass (xs.drop (k + 1)) := by unfold loadV; rw [h, h']; rfl
theorem load_1 {xs : List Lay} {k : Int} (h : La.okP xs = false) : loadV xs k = 0 := by unfold loadV; rw [h]; rfl
theorem load_2 {xs : List Lay} {k : Int} (h : Ar.inB 0 k (xs.length - 1) = false) : loadV xs k = 0 := by unfold loadV; rw [h]; simp
set_option maxHeartbeats 800000 in
theorem l03Load_any (B : Nat) (w : World) (g cap n : Nat) (xs : List Lay) (k : Nat) (hk : k < xs.length) (hq : La.okP xs = true) (ho : LOwn B w (.slice (some ⟨g, 0, none⟩) n cap) xs) :
    Calls Tryd.prog 132 #[.slice (some ⟨g, 0, none⟩) n cap, .int .i64 k] w fun e w' => e = .returned (.int .i64 (La.sm La.mass (xs.drop (k + 1)))) ∧ w = w' := by
  obtain ⟨h16, hfit⟩ := (La.okP_iff xs).1 hq
  obtain ⟨hn, hc1, hc2⟩ := own_cap ho
  unfold maxLen at hc2
  have HT := ho.tail hk
  have hd : (xs.drop (k + 1)).length ≤ 16 := by rw [List.length_drop]; omega
  have HF := Lib.hid (fit_drop (k := k + 1) hfit)
  have hm := Lib.hid (sm_mass (xs.drop (k + 1)))
  obtain ⟨i1, i2⟩ := La.sm_bd (f := Lay.ic) (m := 1000000) (fun x hx => ⟨by have := (HF.out x hx).i1; omega, (HF.out x hx).i2⟩)
  obtain ⟨a1, a2⟩ := La.sm_bd (f := Lay.wa) (m := 1000000) (fun x hx => ⟨(HF.out x hx).w1, (HF.out x hx).w2⟩)
  have j2 : La.sm Lay.ic (xs.drop (k + 1)) ≤ 100000000 := by omega
  have b2 : La.sm Lay.wa (xs.drop (k + 1)) ≤ 100000000 := by omega
  clear i2 a2 ho hq hfit
  by_cases hb : cap = k + 1
  · have hnk : n = k + 1 := by omega
    subst hb hnk
    have hz : (xs.drop (k + 1)) = [] := List.drop_eq_nil_of_le (by omega)
    have HT2 : LSl w (.slice (some ⟨g, 0, none⟩) 0 0) (xs.drop (k + 1)) := Or.inl ⟨hz, _, _, rfl⟩
    have C := Lib.hid (l03Mass_any w _ _ hd HF.out HT2)
    clear HT HT2 hz hn
    generalize xs.drop (k + 1) = ys at *
    go_enter Tryd.func132, Tryd.ntmps132
    go_wp2_with fail
    refine C.out.mono ?_
    rintro e w1 ⟨rfl, rfl⟩
    go_wp2_with fail
    go_ret
    exact ⟨ret_int hm.out.symm, rfl⟩
  · subst hn
    have C := Lib.hid (l03Mass_any w _ _ hd HF.out HT)
    clear HT
    generalize xs.drop (k + 1) = ys at *
    go_enter Tryd.func132, Tryd.ntmps132
    go_wp2_with fail
    refine C.out.mono ?_
    rintro e w1 ⟨rfl, rfl⟩
    go_wp2_with fail
    go_ret
    exact ⟨ret_int hm.out.symm, rfl⟩
theorem nat_of_in {k : Int} {n : Nat} (h : Ar.inB 0 k ((n : Int) - 1) = true) : ∃ j : Nat, k = j ∧ j < n := by
  obtain ⟨h1, h2⟩ := La.inB_iff.1 h
  obtain ⟨j, rfl⟩ := Int.eq_ofNat_of_zero_le h1
  exact ⟨j, rfl, by omega⟩
end Go.Proofs.YtaldmdammipfjaaDoor

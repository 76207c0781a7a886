import Derived.Test.YtaldmdammipfjaaDoorArith
/-
  Plain mathematics of chapter 3: a layer is seven numbers; a profile is a list of layers. No Go in sight.
-/
namespace Go.Proofs.YtaldmdammipfjaaDoor

/-- a layer: form, ice, water, density, degrees, hardness, age -/
structure Lay where
  fo : Int
  ic : Int
  wa : Int
  de : Int
  dg : Int
  ha : Int
  ag : Int

namespace La
/-- its numbers -/
def lv (x : Lay) : List Int := [x.fo, x.ic, x.wa, x.de, x.dg, x.ha, x.ag]
theorem lv_inj {x y : Lay} (h : lv x = lv y) : x = y := by
  cases x; cases y
  simp only [lv, List.cons.injEq, and_true] at h
  obtain ⟨rfl, rfl, rfl, rfl, rfl, rfl, rfl⟩ := h
  rfl
theorem lv_length (x : Lay) : (lv x).length = 7 := rfl
/-- the numbers of all layers, one after the other -/
def fl (xs : List Lay) : List Int := xs.flatMap lv
theorem fl_nil : fl [] = [] := rfl
theorem fl_cons (x : Lay) (xs : List Lay) : fl (x :: xs) = lv x ++ fl xs := rfl
theorem fl_app (xs ys : List Lay) : fl (xs ++ ys) = fl xs ++ fl ys := by unfold fl; rw [List.flatMap_append]
theorem fl_length (xs : List Lay) : (fl xs).length = 7 * xs.length := by
  induction xs with
  | nil => rfl
  | cons x xs ih => rw [fl_cons, List.length_append, lv_length, ih, List.length_cons]; omega
theorem fl_at {xs : List Lay} {i : Nat} {x : Lay} (h : xs[i]? = some x) {j : Nat} (hj : j < 7) : (fl xs)[7 * i + j]? = (lv x)[j]? := by
  induction xs generalizing i with
  | nil => cases h
  | cons y ys ih =>
    rw [fl_cons]
    cases i with
    | zero =>
      simp only [List.getElem?_cons_zero, Option.some.injEq] at h
      subst h
      rw [Nat.mul_zero, Nat.zero_add, List.getElem?_append_left (by rw [lv_length]; omega)]
    | succ i =>
      rw [List.getElem?_cons_succ] at h
      rw [List.getElem?_append_right (by rw [lv_length]; omega), lv_length, show 7 * (i + 1) + j - 7 = 7 * i + j by omega]
      exact ih h
theorem fl_take (xs : List Lay) (k : Nat) : (fl xs).take (7 * k) = fl (xs.take k) := by
  induction xs generalizing k with
  | nil => simp [fl]
  | cons x xs ih =>
    cases k with
    | zero => rfl
    | succ k =>
      rw [List.take_succ_cons, fl_cons, fl_cons, ← ih k, List.take_append, lv_length, List.take_of_length_le (by rw [lv_length]; omega), show 7 * (k + 1) - 7 = 7 * k by omega]
theorem fl_inj {xs ys : List Lay} (h : fl xs = fl ys) : xs = ys := by
  induction xs generalizing ys with
  | nil =>
    cases ys with
    | nil => rfl
    | cons y ys => have := congrArg List.length h; rw [fl_length, fl_length] at this; simp at this
  | cons x xs ih =>
    cases ys with
    | nil => have := congrArg List.length h; rw [fl_length, fl_length] at this; simp at this
    | cons y ys =>
      rw [fl_cons, fl_cons] at h
      obtain ⟨h1, h2⟩ := List.append_inj h (by rw [lv_length, lv_length])
      rw [lv_inj h1, ih h2]
theorem fl_snoc {xs : List Lay} {k : Nat} (h : k < xs.length) : fl (xs.take (k + 1)) = fl (xs.take k) ++ lv xs[k] := by
  rw [List.take_succ_eq_append_getElem h, fl_app]; simp [fl]
/-- are two layers, two profiles equal? -/
def eqL (x y : Lay) : Bool := lv x == lv y
def eqP (xs ys : List Lay) : Bool := fl xs == fl ys
theorem eqP_self (xs : List Lay) : eqP xs xs = true := by unfold eqP; exact beq_self_eq_true _
theorem eqP_len {xs ys : List Lay} (h : xs.length ≠ ys.length) : eqP xs ys = false := by
  unfold eqP; rw [beq_eq_false_iff_ne]; intro e; exact h (by rw [fl_inj e])
theorem eqP_take {xs ys : List Lay} (hl : xs.length = ys.length) (h : xs.take xs.length = ys.take xs.length) : eqP xs ys = true := by
  rw [List.take_length, hl, List.take_length] at h; rw [h]; exact eqP_self ys
theorem eqP_at {xs ys : List Lay} {k : Nat} (h1 : k < xs.length) (h2 : k < ys.length) (h : eqL xs[k] ys[k] = false) : eqP xs ys = false := by
  unfold eqP; rw [beq_eq_false_iff_ne]; intro e
  have := fl_inj e
  subst this
  unfold eqL at h; rw [beq_self_eq_true] at h; cases h
theorem eqL_true {x y : Lay} (h : eqL x y = true) : x = y := lv_inj (by unfold eqL at h; simpa using h)
theorem take_eqL {xs ys : List Lay} {k : Nat} (h1 : k < xs.length) (h2 : k < ys.length) (hp : xs.take k = ys.take k) (h : eqL xs[k] ys[k] = true) : xs.take (k + 1) = ys.take (k + 1) := by
  rw [List.take_succ_eq_append_getElem h1, List.take_succ_eq_append_getElem h2, hp, eqL_true h]

/-- is a layer, a profile valid? -/
def okL (x : Lay) : Bool := Ar.inB 1 x.fo 6 && Ar.inB 1 x.ic 1000000 && Ar.inB 0 x.wa 1000000 && Ar.inB 30 x.de 900 && Ar.inB (-4000) x.dg 0 && Ar.inB 1 x.ha 6 && Ar.inB 0 x.ag 10000
def okP (xs : List Lay) : Bool := decide (xs.length ≤ 16) && xs.all okL
structure Fits (x : Lay) : Prop where
  f1 : 1 ≤ x.fo
  f2 : x.fo ≤ 6
  i1 : 1 ≤ x.ic
  i2 : x.ic ≤ 1000000
  w1 : 0 ≤ x.wa
  w2 : x.wa ≤ 1000000
  d1 : 30 ≤ x.de
  d2 : x.de ≤ 900
  g1 : -4000 ≤ x.dg
  g2 : x.dg ≤ 0
  h1 : 1 ≤ x.ha
  h2 : x.ha ≤ 6
  a1 : 0 ≤ x.ag
  a2 : x.ag ≤ 10000
theorem inB_iff {l x h : Int} : Ar.inB l x h = true ↔ l ≤ x ∧ x ≤ h := by unfold Ar.inB; simp
theorem okL_iff (x : Lay) : okL x = true ↔ Fits x := by
  unfold okL
  simp only [Bool.and_eq_true, inB_iff]
  exact ⟨fun ⟨⟨⟨⟨⟨⟨a, b⟩, c⟩, d⟩, e⟩, f⟩, g⟩ => ⟨a.1, a.2, b.1, b.2, c.1, c.2, d.1, d.2, e.1, e.2, f.1, f.2, g.1, g.2⟩,
    fun h => ⟨⟨⟨⟨⟨⟨⟨h.f1, h.f2⟩, h.i1, h.i2⟩, h.w1, h.w2⟩, h.d1, h.d2⟩, h.g1, h.g2⟩, h.h1, h.h2⟩, h.a1, h.a2⟩⟩
theorem okP_iff (xs : List Lay) : okP xs = true ↔ xs.length ≤ 16 ∧ ∀ x ∈ xs, Fits x := by
  unfold okP
  simp only [Bool.and_eq_true, decide_eq_true_eq, List.all_eq_true, okL_iff]
theorem okP_long {xs : List Lay} (h : 16 < xs.length) : okP xs = false := by
  unfold okP; rw [decide_eq_false (by omega)]; rfl
theorem okP_short {xs : List Lay} (h : xs.length ≤ 16) : okP xs = xs.all okL := by
  unfold okP; rw [decide_eq_true h]; rfl
theorem okP_bad {xs : List Lay} {k : Nat} (h : k < xs.length) (hb : okL xs[k] = false) : okP xs = false := by
  rw [Bool.eq_false_iff]; intro hc
  have := (okL_iff _).2 ((okP_iff xs).1 hc |>.2 _ (List.getElem_mem h))
  rw [hb] at this; cases this
theorem okP_all {xs : List Lay} (h : (xs.take xs.length).all okL = true) : okP xs = decide (xs.length ≤ 16) := by
  rw [List.take_length] at h; unfold okP; rw [h, Bool.and_true]
theorem all_snoc {xs : List Lay} {k : Nat} (h : k < xs.length) (hp : (xs.take k).all okL = true) (hx : okL xs[k] = true) : (xs.take (k + 1)).all okL = true := by
  rw [List.take_succ_eq_append_getElem h, List.all_append, hp]; simp [hx]
theorem fits_at {xs : List Lay} (h : okP xs = true) {k : Nat} (hk : k < xs.length) : Fits xs[k] := (okP_iff xs).1 h |>.2 _ (List.getElem_mem hk)

/-! one test after the other -/
theorem eqL_f {x y : Lay} (h : lv x ≠ lv y) : eqL x y = false := by unfold eqL; rw [beq_eq_false_iff_ne]; exact h
theorem eqL_0 {x y : Lay} (h : (x.fo != y.fo) = true) : eqL x y = false := by
  refine eqL_f (fun e => ?_)
  rw [lv_inj e, bne_self_eq_false'] at h; cases h
theorem eqL_1 {x y : Lay} (h : (x.ic != y.ic) = true) : eqL x y = false := by
  refine eqL_f (fun e => ?_)
  rw [lv_inj e, bne_self_eq_false'] at h; cases h
theorem eqL_2 {x y : Lay} (h : (x.wa != y.wa) = true) : eqL x y = false := by
  refine eqL_f (fun e => ?_)
  rw [lv_inj e, bne_self_eq_false'] at h; cases h
theorem eqL_3 {x y : Lay} (h : (x.de != y.de) = true) : eqL x y = false := by
  refine eqL_f (fun e => ?_)
  rw [lv_inj e, bne_self_eq_false'] at h; cases h
theorem eqL_4 {x y : Lay} (h : (x.dg != y.dg) = true) : eqL x y = false := by
  refine eqL_f (fun e => ?_)
  rw [lv_inj e, bne_self_eq_false'] at h; cases h
theorem eqL_5 {x y : Lay} (h : (x.ha != y.ha) = true) : eqL x y = false := by
  refine eqL_f (fun e => ?_)
  rw [lv_inj e, bne_self_eq_false'] at h; cases h
theorem eqL_6 {x y : Lay} (h : (x.ag != y.ag) = true) : eqL x y = false := by
  refine eqL_f (fun e => ?_)
  rw [lv_inj e, bne_self_eq_false'] at h; cases h
theorem eqL_t {x y : Lay} (h0 : (x.fo != y.fo) = false) (h1 : (x.ic != y.ic) = false) (h2 : (x.wa != y.wa) = false) (h3 : (x.de != y.de) = false) (h4 : (x.dg != y.dg) = false) (h5 : (x.ha != y.ha) = false) (h6 : (x.ag != y.ag) = false) : eqL x y = true := by
  simp only [bne_eq_false_iff_eq] at *
  unfold eqL lv; rw [h0, h1, h2, h3, h4, h5, h6]; exact beq_self_eq_true _
theorem okL_0 {x : Lay} (h : Ar.inB 1 x.fo 6 = false) : okL x = false := by unfold okL; rw [h]; simp
theorem okL_1 {x : Lay} (h : Ar.inB 1 x.ic 1000000 = false) : okL x = false := by unfold okL; rw [h]; simp
theorem okL_2 {x : Lay} (h : Ar.inB 0 x.wa 1000000 = false) : okL x = false := by unfold okL; rw [h]; simp
theorem okL_3 {x : Lay} (h : Ar.inB 30 x.de 900 = false) : okL x = false := by unfold okL; rw [h]; simp
theorem okL_4 {x : Lay} (h : Ar.inB (-4000) x.dg 0 = false) : okL x = false := by unfold okL; rw [h]; simp
theorem okL_5 {x : Lay} (h : Ar.inB 1 x.ha 6 = false) : okL x = false := by unfold okL; rw [h]; simp
theorem okL_6 {x : Lay} (h : Ar.inB 0 x.ag 10000 = false) : okL x = false := by unfold okL; rw [h]; simp
theorem okL_t {x : Lay} (h0 : Ar.inB 1 x.fo 6 = true) (h1 : Ar.inB 1 x.ic 1000000 = true) (h2 : Ar.inB 0 x.wa 1000000 = true) (h3 : Ar.inB 30 x.de 900 = true) (h4 : Ar.inB (-4000) x.dg 0 = true) (h5 : Ar.inB 1 x.ha 6 = true) : okL x = Ar.inB 0 x.ag 10000 := by unfold okL; rw [h0, h1, h2, h3, h4, h5]; rfl

theorem nt {b : Bool} (h : ¬ b = true) : b = false := by simpa using h
theorem nb {b : Bool} (h : (!b) = true) : b = false := by simpa using h
theorem nb' {b : Bool} (h : (!b) = false) : b = true := by simpa using h

/-- the sum of a number of all layers -/
def sm (f : Lay → Int) (xs : List Lay) : Int := (xs.map f).sum
theorem sm_nil (f : Lay → Int) : sm f [] = 0 := rfl
theorem sm_cons (f : Lay → Int) (x : Lay) (xs : List Lay) : sm f (x :: xs) = f x + sm f xs := rfl
theorem sm_app (f : Lay → Int) (xs ys : List Lay) : sm f (xs ++ ys) = sm f xs + sm f ys := by unfold sm; rw [List.map_append, List.sum_append]
theorem sm_snoc (f : Lay → Int) {xs : List Lay} {k : Nat} (h : k < xs.length) : sm f (xs.take (k + 1)) = sm f (xs.take k) + f xs[k] := by
  rw [List.take_succ_eq_append_getElem h, sm_app]; simp [sm]
theorem sm_bd {f : Lay → Int} {m : Int} {xs : List Lay} (h : ∀ x ∈ xs, 0 ≤ f x ∧ f x ≤ m) : 0 ≤ sm f xs ∧ sm f xs ≤ m * xs.length := by
  induction xs with
  | nil => simp [sm]
  | cons x xs ih =>
    have := ih (fun y hy => h y (List.mem_cons_of_mem _ hy))
    have := h x (List.mem_cons_self ..)
    rw [sm_cons, List.length_cons, Int.natCast_add, Int.mul_add]
    omega
theorem mem_take {xs : List Lay} {k : Nat} {x : Lay} (h : x ∈ xs.take k) : x ∈ xs := List.mem_of_mem_take h

/-- the thickness of a layer, the heat that it needs -/
def thick (x : Lay) : Int := Ar.dr x.ic x.de
def cold (x : Lay) : Int := (x.ic * (-x.dg) * 21 + 999) / 1000
def mass (x : Lay) : Int := x.ic + x.wa
theorem thick_bd {x : Lay} (h : Fits x) : 0 ≤ thick x ∧ thick x ≤ 1000001 := by
  have h1 := h.i1; have h2 := h.i2; have h3 := h.d1
  have e : Ar.dr x.ic x.de = Ar.drp x.ic x.de := by unfold Ar.dr; rw [if_neg (by omega)]
  have := Ar.drp_bd (a := x.ic) (b := x.de) (by omega) (by omega)
  unfold thick; rw [e]; omega
theorem cold_in {x : Lay} (h : Fits x) : 0 ≤ x.ic * (-x.dg) ∧ x.ic * (-x.dg) ≤ 4000000000 := by
  have h1 := h.i1; have h2 := h.i2; have h3 := h.g1; have h4 := h.g2
  have e1 : 0 ≤ x.ic * (-x.dg) := Int.mul_nonneg (by omega) (by omega)
  have e2 : x.ic * (-x.dg) ≤ 1000000 * (-x.dg) := Int.mul_le_mul_of_nonneg_right h2 (by omega)
  omega
theorem cold_bd {x : Lay} (h : Fits x) : 0 ≤ cold x ∧ cold x ≤ 84000000 := by
  have := cold_in h
  unfold cold; omega
/-- the layer in which a height lies; none lies in a layer without thickness -/
def lat : List Lay → Int → Nat
  | [], _ => 0
  | x :: xs, h => if h < thick x then 0 else lat xs (h - thick x) + 1
theorem lat_hit {xs : List Lay} {h : Int} {k : Nat} (hk : k < xs.length) (h1 : h < thick xs[k]) : lat (xs.drop k) h = 0 := by
  rw [List.drop_eq_getElem_cons hk, lat, if_pos h1]
theorem lat_miss {xs : List Lay} {h : Int} {k : Nat} (hk : k < xs.length) (h1 : ¬ h < thick xs[k]) : lat (xs.drop k) h = lat (xs.drop (k + 1)) (h - thick xs[k]) + 1 := by
  rw [List.drop_eq_getElem_cons hk, lat, if_neg h1]
theorem sm_drop (f : Lay → Int) {xs : List Lay} {k : Nat} (hk : k < xs.length) : sm f (xs.drop k) = f xs[k] + sm f (xs.drop (k + 1)) := by
  rw [List.drop_eq_getElem_cons hk, sm_cons]
theorem lat_lt : ∀ (xs : List Lay) (h : Int), 0 ≤ h → h < sm thick xs → lat xs h < xs.length
  | [], h, h0, hh => by rw [sm_nil] at hh; omega
  | x :: xs, h, h0, hh => by
    rw [lat, List.length_cons]
    split
    · omega
    · rw [sm_cons] at hh
      have := lat_lt xs (h - thick x) (by omega) (by omega)
      omega
end La
end Go.Proofs.YtaldmdammipfjaaDoor

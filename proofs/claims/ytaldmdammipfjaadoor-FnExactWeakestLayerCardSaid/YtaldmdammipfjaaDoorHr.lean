import Derived.Test.YtaldmdammipfjaaDoorLay
/-
  Plain mathematics of chapter 5: a layer that settles, warms, cools, drains; what goes through a profile from its top down; gradients and forms; an hour. No Go in sight.
-/
namespace Go.Proofs.YtaldmdammipfjaaDoor
set_option linter.unusedVariables false
namespace La

/-- a layer an hour later under a load -/
def stl (x : Lay) (l : Int) : Lay := { x with de := if x.de < 550 then min 550 (x.de + (550 - x.de) * l / 10000000) else x.de, ag := min 10000 (x.ag + 1) }
theorem stl_in {x : Lay} {l : Int} (h : Fits x) (h0 : 0 ≤ l) (h1 : l ≤ 32000000) (hd : x.de < 550) : 0 ≤ (550 - x.de) * l ∧ (550 - x.de) * l ≤ 17000000000 := by
  have := h.d1
  have e1 : 0 ≤ (550 - x.de) * l := Int.mul_nonneg (by omega) h0
  have e2 : (550 - x.de) * l ≤ 520 * l := Int.mul_le_mul_of_nonneg_right (by omega) h0
  omega
theorem stl_fits {x : Lay} {l : Int} (h : Fits x) (h0 : 0 ≤ l) (h1 : l ≤ 32000000) : Fits (stl x l) := by
  have a := h.d1; have b := h.d2; have c := h.a1; have d := h.a2
  unfold stl
  by_cases hd : x.de < 550
  · have := stl_in h h0 h1 hd
    rw [if_pos hd]
    exact ⟨h.f1, h.f2, h.i1, h.i2, h.w1, h.w2, by simp only; omega, by simp only; omega, h.g1, h.g2, h.h1, h.h2, by simp only; omega, by simp only; omega⟩
  · rw [if_neg hd]
    exact ⟨h.f1, h.f2, h.i1, h.i2, h.w1, h.w2, by simp only; omega, by simp only; omega, h.g1, h.g2, h.h1, h.h2, by simp only; omega, by simp only; omega⟩

/-- how many degrees some heat is worth -/
def deg (x : Lay) (h : Int) : Int := h * 1000 / (21 * x.ic)
theorem deg_bd {x : Lay} {h : Int} (hx : Fits x) (h0 : 0 ≤ h) : 0 ≤ deg x h ∧ deg x h ≤ h * 1000 := by
  have := hx.i1
  unfold deg
  exact ⟨Int.ediv_nonneg (by omega) (by omega), Int.ediv_le_self _ (by omega)⟩
theorem deg_cold {x : Lay} {h : Int} (hx : Fits x) (h0 : 0 ≤ h) (hc : h < cold x) : deg x h ≤ -x.dg := by
  have i := hx.i1
  have e : x.ic * -x.dg * 21 = -x.dg * (21 * x.ic) := by
    rw [Int.mul_comm x.ic, Int.mul_assoc, Int.mul_comm x.ic 21]
  unfold cold at hc
  unfold deg
  rw [e] at hc
  generalize hp : -x.dg * (21 * x.ic) = p at hc
  have h1 : h * 1000 < -x.dg * (21 * x.ic) := by omega
  have := Int.ediv_lt_of_lt_mul (a := h * 1000) (b := -x.dg) (c := 21 * x.ic) (by omega) h1
  omega

/-- a layer that gets heat -/
def wrm (x : Lay) (h : Int) : Lay × Int × Bool :=
  if h < cold x then ({ x with dg := x.dg + deg x h }, 0, false)
  else ({ x with dg := 0, ic := x.ic - min ((h - cold x) / 334) (min (x.ic - 1) (1000000 - x.wa)), wa := x.wa + min ((h - cold x) / 334) (min (x.ic - 1) (1000000 - x.wa)) },
    h - cold x - min ((h - cold x) / 334) (min (x.ic - 1) (1000000 - x.wa)) * 334, decide (334 ≤ h - cold x - min ((h - cold x) / 334) (min (x.ic - 1) (1000000 - x.wa)) * 334))
theorem wrm_ok {x : Lay} {h : Int} (hx : Fits x) (h0 : 0 ≤ h) : Fits (wrm x h).1 ∧ 0 ≤ (wrm x h).2.1 ∧ (wrm x h).2.1 ≤ h := by
  have a1 := hx.i1; have a2 := hx.i2; have b1 := hx.w1; have b2 := hx.w2; have g1 := hx.g1; have g2 := hx.g2
  have c := cold_bd hx
  unfold wrm
  by_cases hc : h < cold x
  · have d := deg_bd hx h0
    have d2 := deg_cold hx h0 hc
    rw [if_pos hc]
    exact ⟨⟨hx.f1, hx.f2, hx.i1, hx.i2, hx.w1, hx.w2, hx.d1, hx.d2, by simp only; omega, by simp only; omega, hx.h1, hx.h2, hx.a1, hx.a2⟩, by simp only; omega, by simp only; omega⟩
  · rw [if_neg hc]
    generalize cold x = c at *
    exact ⟨⟨hx.f1, hx.f2, by simp only; omega, by simp only; omega, by simp only; omega, by simp only; omega, hx.d1, hx.d2, by simp only; omega, by simp only; omega, hx.h1, hx.h2, hx.a1, hx.a2⟩, by simp only; omega, by simp only; omega⟩

/-- grams that freeze; the layer then -/
def frz (x : Lay) (h : Int) : Int := min (h / 334) (min x.wa (1000000 - x.ic))
def iced (x : Lay) (n : Int) : Lay := { x with ic := x.ic + n, wa := x.wa - n }
theorem frz_bd {x : Lay} {h : Int} (hx : Fits x) (h0 : 0 ≤ h) : 0 ≤ frz x h ∧ frz x h ≤ 1000000 ∧ frz x h * 334 ≤ h ∧ Fits (iced x (frz x h)) := by
  have a1 := hx.i1; have a2 := hx.i2; have b1 := hx.w1; have b2 := hx.w2
  unfold frz iced
  exact ⟨by omega, by omega, by omega, hx.f1, hx.f2, by simp only; omega, by simp only; omega, by simp only; omega, by simp only; omega, hx.d1, hx.d2, hx.g1, hx.g2, hx.h1, hx.h2, hx.a1, hx.a2⟩
/-- the degrees that a layer loses, and what they cost -/
def fal (x : Lay) (l : Int) : Int := min (deg x l) (x.dg + 4000)
def cost (x : Lay) (d : Int) : Int := (d * 21 * x.ic + 999) / 1000
theorem fal_bd {x : Lay} {l : Int} (hx : Fits x) (h0 : 0 ≤ l) : 0 ≤ fal x l ∧ fal x l ≤ 4000 ∧ fal x l ≤ x.dg + 4000 ∧ 0 ≤ fal x l * 21 * x.ic ∧ fal x l * 21 * x.ic ≤ 84000000000 ∧ 0 ≤ cost x (fal x l) ∧ cost x (fal x l) ≤ l := by
  have d := deg_bd hx h0
  have i1 := hx.i1; have i2 := hx.i2; have g1 := hx.g1; have g2 := hx.g2
  have f0 : 0 ≤ fal x l := by unfold fal; omega
  have f1 : fal x l ≤ 4000 := by unfold fal; omega
  have f2 : fal x l ≤ deg x l := by unfold fal; omega
  have e : deg x l * (21 * x.ic) ≤ l * 1000 := Int.ediv_mul_le _ (by omega)
  have e2 : fal x l * (21 * x.ic) ≤ deg x l * (21 * x.ic) := Int.mul_le_mul_of_nonneg_right f2 (by omega)
  have e3 : fal x l * 21 * x.ic = fal x l * (21 * x.ic) := Int.mul_assoc _ _ _
  have e4 : 0 ≤ fal x l * (21 * x.ic) := Int.mul_nonneg f0 (by omega)
  have e5 : fal x l * (21 * x.ic) ≤ 4000 * (21 * x.ic) := Int.mul_le_mul_of_nonneg_right f1 (by omega)
  unfold cost
  rw [e3]
  generalize fal x l * (21 * x.ic) = p at *
  generalize deg x l * (21 * x.ic) = q at *
  refine ⟨f0, f1, by unfold fal; omega, e4, by omega, by omega, by omega⟩
/-- a layer that loses heat -/
def coo (x : Lay) (h : Int) : Lay × Int × Bool :=
  if 0 < (iced x (frz x h)).wa then (iced x (frz x h), h - frz x h * 334, false)
  else ({ iced x (frz x h) with dg := x.dg - fal (iced x (frz x h)) (h - frz x h * 334) }, h - frz x h * 334 - cost (iced x (frz x h)) (fal (iced x (frz x h)) (h - frz x h * 334)),
    decide (x.dg - fal (iced x (frz x h)) (h - frz x h * 334) = -4000))
theorem coo_ok {x : Lay} {h : Int} (hx : Fits x) (h0 : 0 ≤ h) : Fits (coo x h).1 ∧ 0 ≤ (coo x h).2.1 ∧ (coo x h).2.1 ≤ h := by
  obtain ⟨n0, n1, n2, hf⟩ := frz_bd hx h0
  unfold coo
  split
  · exact ⟨hf, by simp only; omega, by simp only; omega⟩
  · obtain ⟨d0, d1, d2, d3, d4, d5, d6⟩ := fal_bd hf (l := h - frz x h * 334) (by omega)
    have g1 := hx.g1; have g2 := hx.g2
    have eg : (iced x (frz x h)).dg = x.dg := rfl
    rw [eg] at d2
    exact ⟨⟨hf.f1, hf.f2, hf.i1, hf.i2, hf.w1, hf.w2, hf.d1, hf.d2, by simp only; omega, by simp only; omega, hf.h1, hf.h2, hf.a1, hf.a2⟩, by simp only; omega, by simp only; omega⟩

/-- a layer that keeps what it can hold, and what runs out of it -/
def hold (x : Lay) (f : Int) : Int := min (x.wa + f) (x.ic * 60 / 1000)
def drn (x : Lay) (f : Int) : Lay × Int × Bool := ({ x with wa := hold x f }, x.wa + f - hold x f, true)
theorem drn_ok {x : Lay} {f : Int} (hx : Fits x) (h0 : 0 ≤ f) : Fits (drn x f).1 ∧ 0 ≤ (drn x f).2.1 ∧ (drn x f).2.1 ≤ f + 1000000 := by
  have a1 := hx.i1; have a2 := hx.i2; have b1 := hx.w1; have b2 := hx.w2
  unfold drn hold
  exact ⟨⟨hx.f1, hx.f2, hx.i1, hx.i2, by simp only; omega, by simp only; omega, hx.d1, hx.d2, hx.g1, hx.g2, hx.h1, hx.h2, hx.a1, hx.a2⟩, by simp only; omega, by simp only; omega⟩

/-- what goes through a list from its last element down: the list, what is left, and whether it has gone through -/
def top (f : Lay → Int → Lay × Int × Bool) : List Lay → Int → List Lay × Int × Bool
  | [], a => ([], a, true)
  | x :: xs, a => if (top f xs a).2.2 then ((f x (top f xs a).2.1).1 :: (top f xs a).1, (f x (top f xs a).2.1).2.1, (f x (top f xs a).2.1).2.2) else (x :: (top f xs a).1, (top f xs a).2.1, false)
section
variable {f : Lay → Int → Lay × Int × Bool} {a : Int}
theorem top_len (f : Lay → Int → Lay × Int × Bool) (a : Int) : ∀ xs : List Lay, (top f xs a).1.length = xs.length
  | [] => rfl
  | x :: xs => by
    rw [top]; split <;> simp only [List.length_cons, top_len f a xs]
theorem top_end (xs : List Lay) : top f (xs.drop xs.length) a = ([], a, true) := by rw [List.drop_length]; rfl
/-- one more element, the next lower one -/
theorem top_on {xs : List Lay} {k : Nat} (hk : k < xs.length) {ys : List Lay} {l : Int} (h : top f (xs.drop (k + 1)) a = (ys, l, true)) : top f (xs.drop k) a = ((f xs[k] l).1 :: ys, (f xs[k] l).2.1, (f xs[k] l).2.2) := by
  rw [List.drop_eq_getElem_cons hk, top, h]; simp
theorem top_off : ∀ {xs : List Lay} {k : Nat} {ys : List Lay} {l : Int}, top f (xs.drop k) a = (ys, l, false) → top f xs a = (xs.take k ++ ys, l, false)
  | xs, 0, ys, l, h => by simpa using h
  | [], k + 1, ys, l, h => by simp [top] at h
  | x :: xs, k + 1, ys, l, h => by
    rw [List.drop_succ_cons] at h
    have := top_off h
    rw [top, this]; simp
/-- the same by how it ends at an index -/
theorem top_all {xs : List Lay} {ys : List Lay} {l : Int} {b : Bool} (h : top f (xs.drop 0) a = (ys, l, b)) : top f xs a = (ys, l, b) := by simpa using h
/-- what holds of every element and of the amount is kept -/
theorem top_ok {I : Int → Nat → Prop} (hf : ∀ (x : Lay) (l : Int) (n : Nat), Fits x → I l n → Fits (f x l).1 ∧ I (f x l).2.1 (n + 1)) (hmono : ∀ l n, I l n → I l (n + 1)) (h0 : I a 0) :
    ∀ xs : List Lay, (∀ x ∈ xs, Fits x) → (∀ y ∈ (top f xs a).1, Fits y) ∧ I (top f xs a).2.1 xs.length
  | [], _ => ⟨fun y hy => by simp [top] at hy, h0⟩
  | x :: xs, hx => by
    obtain ⟨h1, h2⟩ := top_ok hf hmono h0 xs (fun y hy => hx y (List.mem_cons_of_mem _ hy))
    have hxx := hx x (List.mem_cons_self ..)
    rw [top]
    split
    · obtain ⟨k1, k2⟩ := hf x _ _ hxx h2
      exact ⟨fun y hy => by
        rcases List.mem_cons.1 hy with rfl | hy
        · exact k1
        · exact h1 y hy, k2⟩
    · exact ⟨fun y hy => by
        rcases List.mem_cons.1 hy with rfl | hy
        · exact hxx
        · exact h1 y hy, hmono _ _ h2⟩
end
theorem okP_of {xs ys : List Lay} (h : okP xs = true) (hl : ys.length = xs.length) (hf : ∀ y ∈ ys, Fits y) : okP ys = true :=
  (okP_iff ys).2 ⟨by rw [hl]; exact ((okP_iff xs).1 h).1, hf⟩
theorem wrm_all {xs : List Lay} {j : Int} (h : okP xs = true) (hj : 0 ≤ j) : okP (top wrm xs j).1 = true ∧ 0 ≤ (top wrm xs j).2.1 ∧ (top wrm xs j).2.1 ≤ j := by
  have := top_ok (f := wrm) (a := j) (I := fun l _ => 0 ≤ l ∧ l ≤ j) (fun x l n hx hl => ⟨(wrm_ok hx hl.1).1, (wrm_ok hx hl.1).2.1, Int.le_trans (wrm_ok hx hl.1).2.2 hl.2⟩) (fun l n h => h) ⟨hj, Int.le_refl _⟩ xs ((okP_iff xs).1 h).2
  exact ⟨okP_of h (top_len _ _ _) this.1, this.2⟩
theorem coo_all {xs : List Lay} {j : Int} (h : okP xs = true) (hj : 0 ≤ j) : okP (top coo xs j).1 = true ∧ 0 ≤ (top coo xs j).2.1 ∧ (top coo xs j).2.1 ≤ j := by
  have := top_ok (f := coo) (a := j) (I := fun l _ => 0 ≤ l ∧ l ≤ j) (fun x l n hx hl => ⟨(coo_ok hx hl.1).1, (coo_ok hx hl.1).2.1, Int.le_trans (coo_ok hx hl.1).2.2 hl.2⟩) (fun l n h => h) ⟨hj, Int.le_refl _⟩ xs ((okP_iff xs).1 h).2
  exact ⟨okP_of h (top_len _ _ _) this.1, this.2⟩
theorem drn_all {xs : List Lay} (h : okP xs = true) : okP (top drn xs 0).1 = true ∧ 0 ≤ (top drn xs 0).2.1 ∧ (top drn xs 0).2.1 ≤ 16000000 := by
  have := top_ok (f := drn) (a := 0) (I := fun l n => 0 ≤ l ∧ l ≤ 1000000 * (n : Int)) (fun x l n hx hl => ⟨(drn_ok hx hl.1).1, (drn_ok hx hl.1).2.1, by have := (drn_ok hx hl.1).2.2; push_cast; omega⟩) (fun l n h => by push_cast; omega) ⟨Int.le_refl _, by omega⟩ xs ((okP_iff xs).1 h).2
  have h16 := ((okP_iff xs).1 h).1
  exact ⟨okP_of h (top_len _ _ _) this.1, this.2.1, by have := this.2.2; omega⟩

/-- a profile an hour later -/
def sal : List Lay → List Lay
  | [] => []
  | x :: xs => stl x (sm mass xs) :: sal xs
theorem sal_len : ∀ xs : List Lay, (sal xs).length = xs.length
  | [] => rfl
  | x :: xs => by rw [sal, List.length_cons, List.length_cons, sal_len xs]
theorem sal_top (a : Int) : ∀ xs : List Lay, top (fun x l => (stl x (l - a), l + mass x, true)) xs a = (sal xs, a + sm mass xs, true)
  | [] => by simp [top, sal, sm]
  | x :: xs => by
    rw [top, sal_top a xs, sal, sm_cons]
    simp only [if_true]
    rw [show a + sm mass xs - a = sm mass xs by omega, show a + sm mass xs + mass x = a + (mass x + sm mass xs) by omega]
theorem sal_top0 (xs : List Lay) : top (fun x l => (stl x l, l + mass x, true)) xs 0 = (sal xs, sm mass xs, true) := by
  have := sal_top 0 xs
  simpa using this
theorem sal_at : ∀ {xs : List Lay} {k : Nat} (hk : k < xs.length), (sal xs).take (k + 1) = (sal xs).take k ++ [stl xs[k] (sm mass (xs.drop (k + 1)))]
  | x :: xs, 0, _ => by simp [sal]
  | x :: xs, k + 1, hk => by
    rw [List.length_cons] at hk
    have := sal_at (xs := xs) (k := k) (by omega)
    rw [sal, List.take_succ_cons, this]; simp
theorem mass_in {x : Lay} (h : Fits x) : 0 ≤ mass x ∧ mass x ≤ 2000000 := by
  have := h.i1; have := h.i2; have := h.w1; have := h.w2
  unfold mass; omega
theorem load_bd {xs : List Lay} (h : okP xs = true) : 0 ≤ sm mass xs ∧ sm mass xs ≤ 32000000 := by
  obtain ⟨h16, hf⟩ := (okP_iff xs).1 h
  have := sm_bd (f := mass) (m := 2000000) (fun x hx => mass_in (hf x hx))
  omega
theorem load_drop {xs : List Lay} (h : okP xs = true) (k : Nat) : 0 ≤ sm mass (xs.drop k) ∧ sm mass (xs.drop k) ≤ 32000000 := by
  obtain ⟨h16, hf⟩ := (okP_iff xs).1 h
  have := sm_bd (f := mass) (m := 2000000) (xs := xs.drop k) (fun x hx => mass_in (hf x (List.mem_of_mem_drop hx)))
  rw [List.length_drop] at this
  omega
theorem sal_fits : ∀ {xs : List Lay}, xs.length ≤ 16 → (∀ x ∈ xs, Fits x) → ∀ y ∈ sal xs, Fits y
  | [], _, _, y, hy => by simp [sal] at hy
  | x :: xs, hl, hx, y, hy => by
    rw [List.length_cons] at hl
    rw [sal] at hy
    have hxs : ∀ z ∈ xs, Fits z := fun z hz => hx z (List.mem_cons_of_mem _ hz)
    have hb := load_bd (xs := xs) ((okP_iff xs).2 ⟨by omega, hxs⟩)
    rcases List.mem_cons.1 hy with rfl | hy
    · exact stl_fits (hx x (List.mem_cons_self ..)) hb.1 hb.2
    · exact sal_fits (by omega) hxs y hy
theorem sal_all {xs : List Lay} (h : okP xs = true) : okP (sal xs) = true := okP_of h (sal_len xs) (sal_fits ((okP_iff xs).1 h).1 ((okP_iff xs).1 h).2)

/-- the gradient between a layer and the one above it -/
def way (x y : Lay) : Int := max 1 ((thick x + thick y) / 2)
def grd (x y : Lay) : Int := Ar.dr ((y.dg - x.dg) * 1000) (way x y)
theorem way_bd {x y : Lay} (hx : Fits x) (hy : Fits y) : 1 ≤ way x y ∧ way x y ≤ 1000001 := by
  have := thick_bd hx; have := thick_bd hy
  unfold way; omega
theorem grd_bd {x y : Lay} (hx : Fits x) (hy : Fits y) : -4000001 ≤ grd x y ∧ grd x y ≤ 4000001 := by
  have := way_bd hx hy
  have := hx.g1; have := hx.g2; have := hy.g1; have := hy.g2
  have := Ar.dr_bd (a := (y.dg - x.dg) * 1000) (b := way x y) (m := 4000000) (by omega) (by omega) (by omega)
  unfold grd; omega
/-- the greatest absolute gradient of a layer -/
def nth (xs : List Lay) (k : Nat) : Lay := xs.getD k ⟨0, 0, 0, 0, 0, 0, 0⟩
theorem nth_eq {xs : List Lay} {k : Nat} (h : k < xs.length) : nth xs k = xs[k] := by unfold nth; simp [h]
def low (xs : List Lay) (k : Nat) : Int := if 0 < k then Ar.ab (grd (nth xs (k - 1)) (nth xs k)) else 0
def upp (xs : List Lay) (k : Nat) : Int := if k + 1 < xs.length then Ar.ab (grd (nth xs k) (nth xs (k + 1))) else 0
def stp (xs : List Lay) (k : Nat) : Int := max (low xs k) (upp xs k)
theorem low_bd {xs : List Lay} (h : okP xs = true) {k : Nat} (hk : k < xs.length) : 0 ≤ low xs k ∧ low xs k ≤ 4000001 := by
  unfold low
  split
  · rw [nth_eq (by omega : k - 1 < xs.length), nth_eq hk]
    have := grd_bd (fits_at h (by omega : k - 1 < xs.length)) (fits_at h hk)
    exact ⟨Ar.ab_nonneg _, Ar.ab_le this.1 this.2⟩
  · omega
theorem upp_bd {xs : List Lay} (h : okP xs = true) {k : Nat} (hk : k < xs.length) : 0 ≤ upp xs k ∧ upp xs k ≤ 4000001 := by
  unfold upp
  split
  · rename_i h1
    rw [nth_eq hk, nth_eq h1]
    have := grd_bd (fits_at h hk) (fits_at h h1)
    exact ⟨Ar.ab_nonneg _, Ar.ab_le this.1 this.2⟩
  · omega
/-- the form of a layer whose greatest gradient is g -/
def frm (x : Lay) (g : Int) : Int :=
  if 0 < x.wa then 6 else if x.fo = 6 then 6 else if 2000 ≤ g ∧ 72 ≤ x.ag then 5 else if 1000 ≤ g ∧ 24 ≤ x.ag then 4 else if x.fo = 1 ∧ 48 ≤ x.ag then 2 else if x.fo = 2 ∧ 120 ≤ x.ag then 3 else x.fo
def lfm (xs : List Lay) (k : Nat) : Lay := { nth xs k with fo := frm (nth xs k) (stp xs k) }
/-- a profile with the forms of its temperatures -/
def chf (xs : List Lay) : List Lay := (List.range xs.length).map (lfm xs)
theorem chf_len (xs : List Lay) : (chf xs).length = xs.length := by unfold chf; simp
theorem chf_at {xs : List Lay} {k : Nat} (hk : k < xs.length) : (chf xs).take (k + 1) = (chf xs).take k ++ [lfm xs k] := by
  have hk' : k < (chf xs).length := by rw [chf_len]; exact hk
  have e : (chf xs)[k]? = some (lfm xs k) := by unfold chf; rw [List.getElem?_map, List.getElem?_range hk]; rfl
  rw [List.take_succ_eq_append_getElem hk', (List.getElem?_eq_some_iff.1 e).2]
theorem frm_fits {x : Lay} {g : Int} (h : Fits x) : Fits { x with fo := frm x g } := by
  have a := h.f1; have b := h.f2
  have : 1 ≤ frm x g ∧ frm x g ≤ 6 := by unfold frm; repeat' split <;> omega
  exact ⟨this.1, this.2, h.i1, h.i2, h.w1, h.w2, h.d1, h.d2, h.g1, h.g2, h.h1, h.h2, h.a1, h.a2⟩
theorem chf_all {xs : List Lay} (h : okP xs = true) : okP (chf xs) = true :=
  okP_of h (chf_len xs) (fun y hy => by
    unfold chf at hy
    obtain ⟨k, hk, rfl⟩ := List.mem_map.1 hy
    rw [List.mem_range] at hk
    unfold lfm
    rw [nth_eq hk]
    exact frm_fits (fits_at h hk))

/-- an hour, and what runs off in it -/
def heat (xs : List Lay) (j : Int) : List Lay := if 0 ≤ j then (top wrm (sal xs) j).1 else (top coo (sal xs) (-j)).1
def hrL (xs : List Lay) (j : Int) : List Lay := chf (top drn (heat xs j) 0).1
def hrR (xs : List Lay) (j : Int) : Int := (top drn (heat xs j) 0).2.1
theorem heat_all {xs : List Lay} (h : okP xs = true) (j : Int) : okP (heat xs j) = true := by
  unfold heat
  split
  · exact (wrm_all (sal_all h) (by assumption)).1
  · exact (coo_all (sal_all h) (by omega)).1
theorem heat_len (xs : List Lay) (j : Int) : (heat xs j).length = xs.length := by
  unfold heat; split <;> rw [top_len, sal_len]
theorem hrL_all {xs : List Lay} (h : okP xs = true) (j : Int) : okP (hrL xs j) = true := chf_all (drn_all (heat_all h j)).1
theorem hrL_len (xs : List Lay) (j : Int) : (hrL xs j).length = xs.length := by unfold hrL; rw [chf_len, top_len, heat_len]
theorem hrR_bd {xs : List Lay} (h : okP xs = true) (j : Int) : 0 ≤ hrR xs j ∧ hrR xs j ≤ 16000000 := (drn_all (heat_all h j)).2
/-- some hours -/
def rnL : List Lay → List Int → List Lay
  | xs, [] => xs
  | xs, j :: js => rnL (hrL xs j) js
def rnR : List Lay → List Int → Int
  | _, [] => 0
  | xs, j :: js => hrR xs j + rnR (hrL xs j) js
theorem rnL_snoc : ∀ (xs : List Lay) (js : List Int) (j : Int), rnL xs (js ++ [j]) = hrL (rnL xs js) j
  | xs, [], j => rfl
  | xs, i :: js, j => by rw [List.cons_append, rnL, rnL_snoc, rnL]
theorem rnR_snoc : ∀ (xs : List Lay) (js : List Int) (j : Int), rnR xs (js ++ [j]) = rnR xs js + hrR (rnL xs js) j
  | xs, [], j => by simp [rnR, rnL]
  | xs, i :: js, j => by rw [List.cons_append, rnR, rnR_snoc, rnR, rnL]; omega
theorem rnL_all : ∀ {xs : List Lay} (js : List Int), okP xs = true → okP (rnL xs js) = true
  | _, [], h => h
  | _, j :: js, h => rnL_all js (hrL_all h j)
theorem rnR_bd : ∀ {xs : List Lay} (js : List Int), okP xs = true → 0 ≤ rnR xs js ∧ rnR xs js ≤ 16000000 * js.length
  | _, [], _ => by simp [rnR]
  | xs, j :: js, h => by
    have h1 := hrR_bd h j
    have h2 := rnR_bd js (hrL_all h j)
    rw [rnR, List.length_cons]; push_cast; omega
end La
end Go.Proofs.YtaldmdammipfjaaDoor

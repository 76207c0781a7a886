import Derived.Test.YtaldmdammipfjaaDoorFd
/-
  Plain mathematics of chapter 9: valid grids, cells. No Go in sight.
-/
namespace Go.Proofs.YtaldmdammipfjaaDoor
namespace Gw
theorem inB_iff {l x h : Int} : Ar.inB l x h = true ↔ l ≤ x ∧ x ≤ h := by unfold Ar.inB; simp
def okH (x : Int) : Bool := Ar.inB 0 x 5000
def okHs (zs : List Int) : Bool := zs.all okH
def fits (r c s : Int) (n : Nat) : Bool := Ar.inB 1 r 8 && (Ar.inB 1 c 8 && (Ar.inB 1 s 100 && decide ((n : Int) = r * c)))
/-- is a grid valid? -/
def ok (r c s : Int) (zs : List Int) : Bool := fits r c s zs.length && okHs zs
theorem okHs_iff (zs : List Int) : okHs zs = true ↔ ∀ z ∈ zs, 0 ≤ z ∧ z ≤ 5000 := by
  unfold okHs okH; rw [List.all_eq_true]; exact ⟨fun h z hz => inB_iff.1 (h z hz), fun h z hz => inB_iff.2 (h z hz)⟩
theorem okHs_snoc {zs : List Int} {k : Nat} (h : k < zs.length) : okHs (zs.take (k + 1)) = (okHs (zs.take k) && okH zs[k]) := by
  unfold okHs; rw [List.take_succ_eq_append_getElem h, List.all_append]; simp
theorem okHs_next {zs : List Int} {k : Nat} (h : k < zs.length) (h1 : okHs (zs.take k) = true) (h2 : okH zs[k] = true) : okHs (zs.take (k + 1)) = true := by rw [okHs_snoc h, h1, h2]; rfl
theorem okHs_no {zs : List Int} {k : Nat} (h : k < zs.length) (hk : okH zs[k] = false) : okHs zs = false := by
  unfold okHs; rw [List.all_eq_false]; exact ⟨zs[k], List.getElem_mem h, by rw [hk]; decide⟩
theorem not_any (zs : List Int) : (!zs.any fun x => !okH x) = okHs zs := by unfold okHs; rw [List.not_any_eq_all_not]; simp
theorem f_r {r c s : Int} {n : Nat} (h : Ar.inB 1 r 8 = false) : fits r c s n = false := by unfold fits; rw [h]; rfl
theorem f_c {r c s : Int} {n : Nat} (h : Ar.inB 1 c 8 = false) : fits r c s n = false := by unfold fits; rw [h]; simp
theorem f_s {r c s : Int} {n : Nat} (h : Ar.inB 1 s 100 = false) : fits r c s n = false := by unfold fits; rw [h]; simp
theorem f_n {r c s : Int} {n : Nat} (h : ¬ (n : Int) = r * c) : fits r c s n = false := by unfold fits; rw [decide_eq_false h]; simp
theorem f_t {r c s : Int} {n : Nat} (h1 : Ar.inB 1 r 8 = true) (h2 : Ar.inB 1 c 8 = true) (h3 : Ar.inB 1 s 100 = true) (h : (n : Int) = r * c) : fits r c s n = true := by unfold fits; rw [h1, h2, h3, decide_eq_true h]; rfl
theorem ok_f {r c s : Int} {zs : List Int} (h : fits r c s zs.length = false) : ok r c s zs = false := by unfold ok; rw [h]; rfl
theorem ok_t {r c s : Int} {zs : List Int} (h : fits r c s zs.length = true) : ok r c s zs = okHs zs := by unfold ok; rw [h]; rfl
structure Good (r c s : Int) (zs : List Int) : Prop where
  r1 : 1 ≤ r
  r2 : r ≤ 8
  c1 : 1 ≤ c
  c2 : c ≤ 8
  s1 : 1 ≤ s
  s2 : s ≤ 100
  n : (zs.length : Int) = r * c
  h : ∀ z ∈ zs, 0 ≤ z ∧ z ≤ 5000
theorem ok_iff (r c s : Int) (zs : List Int) : ok r c s zs = true ↔ Good r c s zs := by
  unfold ok fits
  simp only [Bool.and_eq_true, inB_iff, decide_eq_true_eq, okHs_iff]
  exact ⟨fun ⟨⟨a, b, c, d⟩, e⟩ => ⟨a.1, a.2, b.1, b.2, c.1, c.2, d, e⟩, fun g => ⟨⟨⟨g.r1, g.r2⟩, ⟨g.c1, g.c2⟩, ⟨g.s1, g.s2⟩, g.n⟩, g.h⟩⟩
theorem Good.len {r c s : Int} {zs : List Int} (g : Good r c s zs) : zs.length ≤ 64 := by
  have := Fw.prod_le g.r1 g.r2 g.c1 g.c2; have := g.n; omega
/-- the ways through the test of a grid's sides: rows, columns, size, how many -/
theorem sides (r c s : Int) (n : Nat) : (Ar.inB 1 r 8 = false ∧ fits r c s n = false) ∨ (Ar.inB 1 r 8 = true ∧ Ar.inB 1 c 8 = false ∧ fits r c s n = false) ∨ (Ar.inB 1 r 8 = true ∧ Ar.inB 1 c 8 = true ∧ Ar.inB 1 s 100 = false ∧ fits r c s n = false) ∨
    (Ar.inB 1 r 8 = true ∧ Ar.inB 1 c 8 = true ∧ Ar.inB 1 s 100 = true ∧ (1 ≤ r * c ∧ r * c ≤ 64) ∧ ((n : Int) != r * c) = true ∧ fits r c s n = false) ∨ (Ar.inB 1 r 8 = true ∧ Ar.inB 1 c 8 = true ∧ Ar.inB 1 s 100 = true ∧ (1 ≤ r * c ∧ r * c ≤ 64) ∧ ((n : Int) != r * c) = false ∧ fits r c s n = true) := by
  cases h1 : Ar.inB 1 r 8 with
  | false => exact Or.inl ⟨rfl, f_r h1⟩
  | true =>
    cases h2 : Ar.inB 1 c 8 with
    | false => exact Or.inr (Or.inl ⟨rfl, rfl, f_c h2⟩)
    | true =>
      cases h3 : Ar.inB 1 s 100 with
      | false => exact Or.inr (Or.inr (Or.inl ⟨rfl, rfl, rfl, f_s h3⟩))
      | true =>
        have b1 := inB_iff.1 h1
        have b2 := inB_iff.1 h2
        have hp := Fw.prod_le b1.1 b1.2 b2.1 b2.2
        by_cases h : (n : Int) = r * c
        · exact Or.inr (Or.inr (Or.inr (Or.inr ⟨rfl, rfl, rfl, hp, by rw [h]; exact bne_self_eq_false' _, f_t h1 h2 h3 h⟩)))
        · exact Or.inr (Or.inr (Or.inr (Or.inl ⟨rfl, rfl, rfl, hp, by rw [bne_iff_ne]; exact h, f_n h⟩)))
/-- the same, the size first -/
theorem sidesI (r c s : Int) (n : Nat) : (Ar.inB 1 s 100 = false ∧ fits r c s n = false) ∨ (Ar.inB 1 s 100 = true ∧ Ar.inB 1 r 8 = false ∧ fits r c s n = false) ∨ (Ar.inB 1 s 100 = true ∧ Ar.inB 1 r 8 = true ∧ Ar.inB 1 c 8 = false ∧ fits r c s n = false) ∨
    (Ar.inB 1 s 100 = true ∧ Ar.inB 1 r 8 = true ∧ Ar.inB 1 c 8 = true ∧ (1 ≤ r * c ∧ r * c ≤ 64) ∧ ((n : Int) != r * c) = true ∧ fits r c s n = false) ∨ (Ar.inB 1 s 100 = true ∧ Ar.inB 1 r 8 = true ∧ Ar.inB 1 c 8 = true ∧ (1 ≤ r * c ∧ r * c ≤ 64) ∧ ((n : Int) != r * c) = false ∧ fits r c s n = true) := by
  cases h3 : Ar.inB 1 s 100 with
  | false => exact Or.inl ⟨rfl, f_s h3⟩
  | true =>
    rcases sides r c s n with h | h | h | h | h
    · exact Or.inr (Or.inl ⟨rfl, h.1, h.2⟩)
    · exact Or.inr (Or.inr (Or.inl ⟨rfl, h.1, h.2.1, h.2.2⟩))
    · rw [h3] at h; cases h.2.2.1
    · exact Or.inr (Or.inr (Or.inr (Or.inl ⟨rfl, h.1, h.2.1, h.2.2.2.1, h.2.2.2.2.1, h.2.2.2.2.2⟩)))
    · exact Or.inr (Or.inr (Or.inr (Or.inr ⟨rfl, h.1, h.2.1, h.2.2.2.1, h.2.2.2.2.1, h.2.2.2.2.2⟩)))
/-- is a place in the grid? -/
def isAt (r c a b : Int) : Bool := Ar.inB 0 a (r - 1) && Ar.inB 0 b (c - 1)
theorem cell_bd {c a b : Int} (h1 : 0 ≤ a) (h2 : a ≤ 7) (h3 : 0 ≤ b) (h4 : b ≤ 7) (h5 : 1 ≤ c) (h6 : c ≤ 8) : 0 ≤ a * c ∧ a * c ≤ 56 ∧ 0 ≤ a * c + b ∧ a * c + b ≤ 63 := by
  have e1 : a * c ≤ 7 * c := Int.mul_le_mul_of_nonneg_right h2 (by omega)
  have e2 : 0 ≤ a * c := Int.mul_nonneg h1 (by omega)
  omega
end Gw
end Go.Proofs.YtaldmdammipfjaaDoor

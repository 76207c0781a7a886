import Derived.Test.YtdfmgdmekflmeaaObsW
/-
  Plain mathematics of CompareStations: pairs of observations of one hour, counted by pairs and by hours. No Go in sight.
-/
namespace Go.Proofs.Ytdfmgdmekflmeaa
namespace Ob
def cntB (b : List Obs) (h : Int) : Nat → Int
  | 0 => 0
  | k + 1 => cntB b h k + (if h = (nth b k).ho then 1 else 0)
def sumB (b : List Obs) (x : Obs) : Nat → Int
  | 0 => 0
  | k + 1 => sumB b x k + (if x.ho = (nth b k).ho then Ar.ab (x.sn - (nth b k).sn) else 0)
theorem cntB_bd (b : List Obs) (h : Int) (k : Nat) : 0 ≤ cntB b h k ∧ cntB b h k ≤ k := by
  induction k with
  | zero => simp [cntB]
  | succ k ih => rw [cntB]; split <;> omega
theorem sumB_bd {b : List Obs} {x : Obs} (hx : Fits x) (hb : ∀ y ∈ b, Fits y) {k : Nat} (hk : k ≤ b.length) : 0 ≤ sumB b x k ∧ sumB b x k ≤ 2000 * k := by
  induction k with
  | zero => simp [sumB]
  | succ k ih =>
    have := ih (by omega)
    have fy := hb _ (List.getElem_mem (show k < b.length by omega))
    rw [← nth_eq] at fy
    have h1 := hx.s1; have h2 := hx.s2; have h3 := fy.s1; have h4 := fy.s2
    rw [sumB]
    split
    · unfold Ar.ab; split <;> omega
    · omega
theorem hit {b : List Obs} (hu : up (-1) b = true) {j : Nat} (hj : j < b.length) (x : Obs) (hx : x.ho = b[j].ho) : ∀ k, k ≤ b.length → cntB b x.ho k = (if j < k then 1 else 0) ∧ sumB b x k = (if j < k then Ar.ab (x.sn - b[j].sn) else 0) := by
  intro k
  induction k with
  | zero => intro _; simp [cntB, sumB]
  | succ k ih =>
    intro hk
    obtain ⟨i1, i2⟩ := ih (by omega)
    rw [cntB, sumB, i1, i2, nth_eq (show k < b.length by omega)]
    rcases Nat.lt_trichotomy j k with h | h | h
    · have := up_lt hu h (show k < b.length by omega)
      rw [if_pos h, if_pos (show j < k + 1 by omega), if_neg (show ¬ x.ho = b[k].ho by omega), if_pos h, if_pos (show j < k + 1 by omega), if_neg (show ¬ x.ho = b[k].ho by omega)]
      exact ⟨by omega, by omega⟩
    · subst h
      rw [if_neg (Nat.lt_irrefl j), if_pos (Nat.lt_succ_self j), if_pos hx, if_neg (Nat.lt_irrefl j), if_pos (Nat.lt_succ_self j), if_pos hx]
      exact ⟨by omega, by omega⟩
    · have := up_lt hu h hj
      rw [if_neg (show ¬ j < k by omega), if_neg (show ¬ j < k + 1 by omega), if_neg (show ¬ x.ho = b[k].ho by omega), if_neg (show ¬ j < k by omega), if_neg (show ¬ j < k + 1 by omega), if_neg (show ¬ x.ho = b[k].ho by omega)]
      exact ⟨by omega, by omega⟩
theorem miss_no {b : List Obs} {x : Obs} (hn : has b x.ho = false) : ∀ k, k ≤ b.length → cntB b x.ho k = 0 ∧ sumB b x k = 0 := by
  intro k
  induction k with
  | zero => intro _; simp [cntB, sumB]
  | succ k ih =>
    intro hk
    obtain ⟨i1, i2⟩ := ih (by omega)
    have hne : ¬ x.ho = (nth b k).ho := by
      intro e
      rw [nth_eq (show k < b.length by omega)] at e
      have := has_at (show k < b.length by omega)
      rw [← e, hn] at this; cases this
    rw [cntB, sumB, i1, i2, if_neg hne, if_neg hne]; exact ⟨rfl, rfl⟩
theorem has_ix {b : List Obs} {h : Int} (hh : has b h = true) : ∃ j, ∃ hj : j < b.length, h = b[j].ho := by
  unfold has at hh
  obtain ⟨y, hy, he⟩ := List.any_eq_true.1 hh
  obtain ⟨j, hj, rfl⟩ := List.getElem_of_mem hy
  exact ⟨j, hj, (by simpa using he : b[j].ho = h).symm⟩
def cntA (a b : List Obs) : Nat → Int
  | 0 => 0
  | i + 1 => cntA a b i + cntB b (nth a i).ho b.length
def sumA (a b : List Obs) : Nat → Int
  | 0 => 0
  | i + 1 => sumA a b i + sumB b (nth a i) b.length
def cmpM (a b : List Obs) : Int := if okS a && okS b then cntA a b a.length else 0
def cmpS (a b : List Obs) : Int := if okS a && okS b then sumA a b a.length else 0
def cmpC (a b : List Obs) : Int := if okS a && okS b then 0 else 1
end Ob
end Go.Proofs.Ytdfmgdmekflmeaa

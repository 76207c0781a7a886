import Derived.Test.YtakalehakdffiabObsV
/-
  Plain mathematics of chapter 4, the second part: new snow, odd observations, missing hours, two stations, an observation added. No Go in sight.
-/
namespace Go.Proofs.Ytakalehakdffiab
namespace Ob
/-- the one at a place -/
def nth (xs : List Obs) (i : Nat) : Obs := xs.getD i ⟨0, 0, 0, 0⟩
theorem nth_eq {xs : List Obs} {i : Nat} (h : i < xs.length) : nth xs i = xs[i] := by unfold nth; rw [List.getD_eq_getElem?_getD, List.getElem?_eq_getElem h]; rfl
/-- what has fallen up to the place k -/
def newS (a b : Int) (xs : List Obs) : Nat → Int
  | 0 => 0
  | k + 1 => newS a b xs k + (if 0 < k ∧ a ≤ (nth xs (k - 1)).ho ∧ (nth xs k).ho ≤ b then max 0 ((nth xs k).sn - (nth xs (k - 1)).sn) else 0)
theorem newS_bd {a b : Int} {xs : List Obs} (hf : ∀ x ∈ xs, Fits x) {k : Nat} (hk : k ≤ xs.length) : 0 ≤ newS a b xs k ∧ newS a b xs k ≤ 2000 * k := by
  induction k with
  | zero => simp [newS]
  | succ k ih =>
    have h1 := ih (by omega)
    have f1 := hf _ (List.getElem_mem (show k < xs.length by omega))
    rw [← nth_eq] at f1
    rw [newS]
    split
    · rename_i hc
      have f2 := hf _ (List.getElem_mem (show k - 1 < xs.length by omega))
      rw [← nth_eq] at f2
      have a1 := f1.s1; have a2 := f1.s2; have a3 := f2.s1; have a4 := f2.s2
      omega
    · omega
/-- is one odd behind another one? -/
def odd (s d : Int) (a b : Obs) : Bool := decide (s * (b.ho - a.ho) < Ar.ab (b.sn - a.sn)) || decide (d * (b.ho - a.ho) < Ar.ab (b.dg - a.dg))
def odds (s d : Int) (xs : List Obs) : Nat → List Int
  | 0 => []
  | k + 1 => odds s d xs k ++ (if 0 < k ∧ odd s d (nth xs (k - 1)) (nth xs k) = true then [(k : Int)] else [])
theorem odds_len (s d : Int) (xs : List Obs) (k : Nat) : (odds s d xs k).length ≤ k := by
  induction k with
  | zero => simp [odds]
  | succ k ih => rw [odds, List.length_append]; split <;> simp <;> omega
/-- what is left -/
def keep (s d : Int) (l : List Obs) (x : Obs) : List Obs := if 0 < l.length ∧ odd s d (nth l (l.length - 1)) x = true then l else l ++ [x]
def left (s d : Int) (xs : List Obs) : Nat → List Obs
  | 0 => []
  | k + 1 => keep s d (left s d xs k) (nth xs k)
theorem left_len (s d : Int) (xs : List Obs) (k : Nat) : (left s d xs k).length ≤ k := by
  induction k with
  | zero => simp [left]
  | succ k ih => rw [left, keep]; split <;> first | omega | (simp; omega)
theorem left_pos (s d : Int) (xs : List Obs) (k : Nat) (h : 0 < k) : 0 < (left s d xs k).length := by
  induction k with
  | zero => omega
  | succ k ih =>
    rw [left, keep]
    split
    · rename_i hc; exact hc.1
    · simp
/-- is there one of an hour? -/
def has (xs : List Obs) (h : Int) : Bool := xs.any fun x => x.ho == h
def miss (xs : List Obs) (a : Int) : Nat → List Int
  | 0 => []
  | k + 1 => miss xs a k ++ (if has xs (a + k) = true then [] else [a + k])
theorem miss_len (xs : List Obs) (a : Int) (k : Nat) : (miss xs a k).length ≤ k := by
  induction k with
  | zero => simp [miss]
  | succ k ih => rw [miss, List.length_append]; split <;> simp <;> omega
theorem miss_mono (xs : List Obs) (a : Int) {k l : Nat} (h : k ≤ l) : (miss xs a k).length ≤ (miss xs a l).length := by
  induction l with
  | zero => obtain rfl : k = 0 := by omega
            exact Nat.le_refl _
  | succ l ih =>
    rcases Nat.lt_or_ge l k with h1 | h1
    · obtain rfl : k = l + 1 := by omega
      exact Nat.le_refl _
    · rw [miss, List.length_append]; have := ih h1; omega
theorem has_take {xs : List Obs} {k : Nat} (h : k < xs.length) (t : Int) : has (xs.take (k + 1)) t = (has (xs.take k) t || (xs[k].ho == t)) := by
  unfold has; rw [List.take_succ_eq_append_getElem h, List.any_append]; simp
theorem has_at {xs : List Obs} {k : Nat} (h : k < xs.length) : has xs xs[k].ho = true := List.any_eq_true.2 ⟨_, List.getElem_mem h, by simp⟩
/-- the one of an hour -/
def atH (xs : List Obs) (h : Int) : Option Obs := xs.find? fun x => x.ho == h
/-- the hours that both have, the differences of their snow -/
def both (b : List Obs) (x : Obs) : Int := if has b x.ho = true then 1 else 0
def apart (b : List Obs) (x : Obs) : Int := match atH b x.ho with | some y => Ar.ab (x.sn - y.sn) | none => 0
end Ob
end Go.Proofs.Ytakalehakdffiab

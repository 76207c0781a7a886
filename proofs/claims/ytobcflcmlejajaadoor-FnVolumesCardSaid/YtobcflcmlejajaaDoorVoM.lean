import Derived.Test.YtobcflcmlejajaaDoorVo
/-
  Plain mathematics of chapter 12, on: differences, the first of the greatest ones, the least beginning, masses divided and joined. No Go in sight.
-/
namespace Go.Proofs.YtobcflcmlejajaaDoor
set_option linter.unusedVariables false
namespace Vm
/-- by how much f grows at each of the first k steps -/
def dfs (f : Nat → Int) (k : Nat) : List Int := (List.range k).map fun i => f (i + 1) - f i
theorem dfs_length (f : Nat → Int) (k : Nat) : (dfs f k).length = k := by unfold dfs; simp
theorem dfs_succ (f : Nat → Int) (k : Nat) : dfs f (k + 1) = dfs f k ++ [f (k + 1) - f k] := by unfold dfs; rw [List.range_succ, List.map_append]; rfl
theorem dfs_at? (f : Nat → Int) {k n : Nat} (h : k < n) : (dfs f n)[k]? = some (f (k + 1) - f k) := by unfold dfs; simp [h]
theorem dfs_at {f : Nat → Int} {k n : Nat} (h : k < (dfs f n).length) : (dfs f n)[k] = f (k + 1) - f k :=
  Option.some.inj ((List.getElem?_eq_getElem h).symm.trans (dfs_at? f (by rw [dfs_length] at h; exact h)))
theorem dfs_sum (f : Nat → Int) : ∀ k, (dfs f k).sum = f k - f 0
  | 0 => by simp [dfs]
  | k + 1 => by rw [dfs_succ, List.sum_append, dfs_sum f k]; simp; omega
theorem dfs_congr {f g : Nat → Int} {n : Nat} (h : ∀ k, k ≤ n → f k = g k) : dfs f n = dfs g n := by
  unfold dfs
  refine List.map_congr_left (fun i hi => ?_)
  rw [List.mem_range] at hi
  rw [h (i + 1) (by omega), h i (by omega)]

/-! ### the first of the greatest ones -/
structure Mx (f : Nat → Int) (k b : Nat) : Prop where
  lt : b < k
  le : ∀ j, j < k → f j ≤ f b
  first : ∀ j, j < b → f j < f b
theorem Mx.one (f : Nat → Int) : Mx f 1 0 := ⟨by omega, fun j h => by have : j = 0 := by omega
                                                                      subst this; exact Int.le_refl _, fun j h => by omega⟩
theorem Mx.keep {f : Nat → Int} {k b : Nat} (h : Mx f k b) (hn : ¬ f b < f k) : Mx f (k + 1) b :=
  ⟨by have := h.lt; omega, fun j hj => by
    by_cases e : j = k
    · rw [e]; omega
    · exact h.le j (by omega), h.first⟩
theorem Mx.new {f : Nat → Int} {k b : Nat} (h : Mx f k b) (hn : f b < f k) : Mx f (k + 1) k :=
  ⟨by omega, fun j hj => by
    by_cases e : j = k
    · rw [e]; exact Int.le_refl _
    · have := h.le j (by omega); omega, fun j hj => by have := h.le j (by omega); omega⟩
theorem Mx.uniq {f : Nat → Int} {k a b : Nat} (h : Mx f k a) (g : Mx f k b) : a = b := by
  rcases Nat.lt_trichotomy a b with h1 | h1 | h1
  · have := g.first a h1; have := h.le b g.lt; omega
  · exact h1
  · have := h.first b h1; have := g.le a h.lt; omega
theorem Mx.ex (f : Nat → Int) : ∀ n, 0 < n → ∃ b, Mx f n b
  | 0, h => by omega
  | 1, _ => ⟨0, Mx.one f⟩
  | n + 2, _ => by
    obtain ⟨b, hb⟩ := Mx.ex f (n + 1) (by omega)
    by_cases h : f b < f (n + 1)
    · exact ⟨_, hb.new h⟩
    · exact ⟨_, hb.keep h⟩
noncomputable def mx (f : Nat → Int) (n : Nat) : Nat := open Classical in if h : ∃ b, Mx f n b then h.choose else 0
theorem mx_of {f : Nat → Int} {n b : Nat} (h : Mx f n b) : mx f n = b := by
  have e : ∃ b, Mx f n b := ⟨b, h⟩
  unfold mx
  rw [dif_pos e]
  exact e.choose_spec.uniq h
theorem mx_is (f : Nat → Int) {n : Nat} (h : 0 < n) : Mx f n (mx f n) := by
  obtain ⟨b, hb⟩ := Mx.ex f n h
  rw [mx_of hb]; exact hb
/-! ### the least one -/
structure Ls (p : Nat → Bool) (r : Nat) : Prop where
  is : p r = true
  no : ∀ j, j < r → p j = false
theorem Ls.uniq {p : Nat → Bool} {a b : Nat} (h : Ls p a) (g : Ls p b) : a = b := by
  rcases Nat.lt_trichotomy a b with h1 | h1 | h1
  · have := g.no a h1; rw [h.is] at this; cases this
  · exact h1
  · have := h.no b h1; rw [g.is] at this; cases this
noncomputable def lst (p : Nat → Bool) : Nat := open Classical in if h : ∃ b, Ls p b then h.choose else 0
theorem lst_of {p : Nat → Bool} {b : Nat} (h : Ls p b) : lst p = b := by
  have e : ∃ b, Ls p b := ⟨b, h⟩
  unfold lst
  rw [dif_pos e]
  exact e.choose_spec.uniq h
theorem Ls.ex {p : Nat → Bool} : ∀ n, p n = true → ∃ b, Ls p b := by
  intro n
  induction n using Nat.strongRecOn with
  | ind n ih =>
    intro hn
    by_cases h : ∃ j, j < n ∧ p j = true
    · obtain ⟨j, hj, hp⟩ := h
      exact ih j hj hp
    · refine ⟨n, hn, fun j hj => ?_⟩
      rw [Bool.eq_false_iff]; exact fun hc => h ⟨j, hj, hc⟩
theorem lst_is {p : Nat → Bool} {n : Nat} (h : p n = true) : Ls p (lst p) := by
  obtain ⟨b, hb⟩ := Ls.ex n h
  rw [lst_of hb]; exact hb

/-! ### what the questions about growth answer -/
/-- are the numbers as they must be? -/
def lim (t s : Int) : Bool := ton t && Ar.inB 0 s 1000
theorem lim_of {t s : Int} (h : lim t s = true) : (0 ≤ t ∧ t ≤ 100000000) ∧ 0 ≤ s ∧ s ≤ 1000 := by
  unfold lim ton at h
  rw [Bool.and_eq_true, inB_iff, inB_iff] at h
  exact h
/-- what is taken up in a part -/
def up (xs : List Pat) (t s : Int) (i : Nat) : Int := ma xs t s (i + 1) - ma xs t s i
/-- is the goal reached from that beginning? -/
def gp (xs : List Pat) (s goal : Int) (j : Nat) : Bool := decide (goal ≤ ma xs (j : Int) s xs.length)
theorem gp_mono {xs : List Pat} {s goal : Int} {a b : Nat} (h : a ≤ b) (ha : gp xs s goal a = true) : gp xs s goal b = true := by
  unfold gp at *
  rw [decide_eq_true_eq] at *
  have := ma_mono (xs := xs) (t := (a : Int)) (t' := (b : Int)) (s := s) (by omega) xs.length (Nat.le_refl _)
  omega
theorem gp_goal {xs : List Pat} {s goal : Int} (hv : okS xs = true) (h0 : 0 ≤ s) (h1 : s ≤ 1000) (hg : 0 ≤ goal) : gp xs s goal goal.toNat = true := by
  unfold gp
  rw [decide_eq_true_eq, Int.toNat_of_nonneg hg]
  exact ma_nn hv hg h0 h1 _ (Nat.le_refl _)
/-! ### masses divided -/
/-- the sum of the first k -/
def sk (zs : List Int) (k : Nat) : Int := (zs.take k).sum
theorem sk_0 (zs : List Int) : sk zs 0 = 0 := rfl
theorem sk_succ {zs : List Int} {k : Nat} (h : k < zs.length) : sk zs (k + 1) = sk zs k + zs[k] := by
  unfold sk; rw [List.take_succ_eq_append_getElem h, List.sum_append]; simp
theorem sk_all (zs : List Int) : sk zs zs.length = zs.sum := by unfold sk; rw [List.take_length]
/-- are all within bounds, and not too many? -/
def okI (zs : List Int) (g : Int) : Bool := decide (zs.length ≤ 64) && zs.all fun z => Ar.inB 0 z g
theorem okI_of {zs : List Int} {g : Int} (h : okI zs g = true) : zs.length ≤ 64 ∧ ∀ k (hk : k < zs.length), 0 ≤ zs[k] ∧ zs[k] ≤ g := by
  unfold okI at h
  rw [Bool.and_eq_true, decide_eq_true_eq, List.all_eq_true] at h
  exact ⟨h.1, fun k hk => inB_iff.1 (h.2 _ (List.getElem_mem hk))⟩
theorem okI_long {zs : List Int} {g : Int} (h : ¬ zs.length ≤ 64) : okI zs g = false := by unfold okI; rw [decide_eq_false h]; rfl
theorem okI_short {zs : List Int} {g : Int} (h : zs.length ≤ 64) : okI zs g = zs.all fun z => Ar.inB 0 z g := by unfold okI; rw [decide_eq_true h]; rfl
theorem okI_bad {zs : List Int} {g : Int} {k : Nat} (h : k < zs.length) (hb : Ar.inB 0 zs[k] g = false) : okI zs g = false := by
  rw [Bool.eq_false_iff]; intro hc
  have := (okI_of hc).2 k h
  rw [inB_no] at hb; exact hb this
theorem not_anyI (zs : List Int) (g : Int) : (zs.any fun z => !Ar.inB 0 z g) = !(zs.all fun z => Ar.inB 0 z g) := by
  induction zs with
  | nil => rfl
  | cons x xs ih => rw [List.any_cons, List.all_cons, ih, Bool.not_and]
theorem sk_bd {zs : List Int} {g : Int} (h : ∀ k (hk : k < zs.length), 0 ≤ zs[k] ∧ zs[k] ≤ g) : ∀ k, k ≤ zs.length → 0 ≤ sk zs k ∧ sk zs k ≤ g * k
  | 0, _ => by rw [sk_0]; simp
  | k + 1, hk => by
    have := sk_bd h k (by omega)
    have h2 := h k (by omega)
    rw [sk_succ (show k < zs.length by omega), Int.natCast_add, Int.mul_add]
    omega
theorem sk_le {zs : List Int} {g : Int} (h : ∀ k (hk : k < zs.length), 0 ≤ zs[k] ∧ zs[k] ≤ g) {j k : Nat} (hjk : j ≤ k) (hk : k ≤ zs.length) : sk zs j ≤ sk zs k := by
  induction k with
  | zero => have : j = 0 := by omega
            subst this; omega
  | succ k ih =>
    by_cases e : j = k + 1
    · subst e; omega
    · have := ih (by omega) (by omega)
      have h2 := h k (by omega)
      rw [sk_succ (show k < zs.length by omega)]; omega
/-- what the first k are given -/
def sp (t : Int) (zs : List Int) (k : Nat) : Int := Ar.dr (t * sk zs k) zs.sum
def spL (t : Int) (zs : List Int) : List Int := if ton t && okI zs 1000 then (if zs.sum = 0 then [] else dfs (sp t zs) zs.length) else []
def spC (t : Int) (zs : List Int) : Int := if ton t && okI zs 1000 then (if zs.sum = 0 then 6 else 0) else 2
theorem spL_len (t : Int) (zs : List Int) : (spL t zs).length ≤ 64 := by
  unfold spL
  split
  · rename_i h
    rw [Bool.and_eq_true] at h
    split
    · simp
    · rw [dfs_length]; exact (okI_of h.2).1
  · simp
theorem sp_0 {t : Int} {zs : List Int} (h : 0 < zs.sum) : sp t zs 0 = 0 := by unfold sp; rw [sk_0, Int.mul_zero]; exact dr_zero h
theorem sp_n {t : Int} {zs : List Int} (ht : 0 ≤ t) (h : 0 < zs.sum) : sp t zs zs.length = t := by unfold sp; rw [sk_all]; exact dr_mul ht h
/-! ### masses joined -/
def jtV (zs : List Int) : Int := if okI zs 100000000 then (if zs.sum ≤ 100000000 then zs.sum else 0) else 0
def jtK (zs : List Int) : Int := if okI zs 100000000 then (if zs.sum ≤ 100000000 then cls zs.sum else 0) else 0
def jtC (zs : List Int) : Int := if okI zs 100000000 then (if zs.sum ≤ 100000000 then 0 else 6) else 2
end Vm
end Go.Proofs.YtobcflcmlejajaaDoor

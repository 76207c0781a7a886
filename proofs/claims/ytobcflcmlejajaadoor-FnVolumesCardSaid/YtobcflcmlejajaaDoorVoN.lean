import Derived.Test.YtobcflcmlejajaaDoorVoM
/-
  Plain mathematics of chapter 12's two promises. No Go in sight.
-/
namespace Go.Proofs.YtobcflcmlejajaaDoor
set_option linter.unusedVariables false
namespace Vm
theorem dr_span {a b : Int} (ha : 0 ≤ a) (hb : 0 < b) : 2 * (b * Ar.dr a b) ≤ 2 * a + b ∧ 2 * a + b < 2 * (b * Ar.dr a b) + 2 * b := by
  rw [dr_eq ha hb]
  have h1 := Int.mul_ediv_add_emod (2 * a + b) (2 * b)
  have h2 := Int.emod_nonneg (2 * a + b) (show 2 * b ≠ 0 by omega)
  have h3 := Int.emod_lt_of_pos (2 * a + b) (show 0 < 2 * b by omega)
  rw [Int.mul_assoc] at h1
  omega
theorem slab_split {q p d n : Int} (hq : q ≤ 1000000) (h0 : 0 ≤ p) (h1 : p ≤ q) (h3 : 0 ≤ d) (h4 : d ≤ 1000) (h5 : 1 ≤ n) (h6 : n ≤ 1000) :
    -1 ≤ slab q d n - slab p d n - slab (q - p) d n ∧ slab q d n - slab p d n - slab (q - p) d n ≤ 1 := by
  have e : q * d * n = p * d * n + (q - p) * d * n := by rw [← Int.add_mul, ← Int.add_mul]; congr 2; omega
  have n1 := (prod3 h0 (show p ≤ 1000000 by omega) h3 h4 (show 0 ≤ n by omega) h6).2.2.1
  have n2 := (prod3 (show 0 ≤ q - p by omega) (by omega) h3 h4 (show 0 ≤ n by omega) h6).2.2.1
  unfold slab
  rw [e]
  generalize p * d * n = x at *
  generalize (q - p) * d * n = y at *
  have a1 := dr_span (a := x + y) (b := 100000) (by omega) (by omega)
  have a2 := dr_span (a := x) (b := 100000) (by omega) (by omega)
  have a3 := dr_span (a := y) (b := 100000) (by omega) (by omega)
  omega
theorem cls_step (m : Int) : cls m ≤ cls (m + 1) ∧ cls (m + 1) ≤ cls m + 1 := by
  unfold cls
  constructor <;> (repeat' split) <;> omega
theorem depth_near {q d n : Int} (h1 : 1 ≤ q) (hq : q ≤ 1000000) (h3 : 0 ≤ d) (h4 : d ≤ 1000) (h5 : 1 ≤ n) (h6 : n ≤ 1000) :
    -(50000 + q * n) ≤ (Ar.dr (slab q d n * 100000) (q * n) - d) * q * n ∧ (Ar.dr (slab q d n * 100000) (q * n) - d) * q * n ≤ 50000 + q * n := by
  have hp := (prod3 (show 0 ≤ q by omega) hq h3 h4 (show 0 ≤ n by omega) h6).2.2.1
  have hs := (slab_bd (show 0 ≤ q by omega) hq h3 h4 (show 0 ≤ n by omega) h6).1
  have hqn : 1 ≤ q * n := by have := Int.mul_le_mul h1 h5 (by omega) (show (0 : Int) ≤ q by omega); omega
  have a1 := dr_span (a := q * d * n) (b := 100000) hp (by omega)
  have a2 := dr_span (a := slab q d n * 100000) (b := q * n) (by omega) (by omega)
  have e1 : Ar.dr (q * d * n) 100000 = slab q d n := rfl
  rw [e1] at a1
  have e2 : (Ar.dr (slab q d n * 100000) (q * n) - d) * q * n = q * n * Ar.dr (slab q d n * 100000) (q * n) - q * d * n := by
    rw [Int.mul_assoc, Int.mul_comm, Int.mul_sub]
    congr 1
    rw [Int.mul_assoc, Int.mul_comm n d, ← Int.mul_assoc]
  rw [e2]
  generalize Ar.dr (slab q d n * 100000) (q * n) = D at *
  generalize q * n * D = X at *
  generalize q * d * n = Y at *
  generalize slab q d n = S at *
  omega
theorem dd_is {q d n : Int} (h1 : 1 ≤ q) (hq : q ≤ 1000000) (h3 : 0 ≤ d) (h4 : d ≤ 1000) (h5 : 1 ≤ n) (h6 : n ≤ 1000) :
    ddV (slab q d n) q n = Ar.dr (slab q d n * 100000) (q * n) ∧ ddC (slab q d n) q n = 0 := by
  have hs := slab_bd (show 0 ≤ q by omega) hq h3 h4 (show 0 ≤ n by omega) h6
  have e : (ton (slab q d n) && Ar.inB 1 q 1000000 && Ar.inB 1 n 1000) = true := by
    unfold ton
    rw [Bool.and_eq_true, Bool.and_eq_true, inB_iff, inB_iff, inB_iff]; omega
  unfold ddV ddC
  rw [e]; exact ⟨rfl, rfl⟩
theorem sp_mono {t : Int} {zs : List Int} (ht : 0 ≤ t) (hw : ∀ k (hk : k < zs.length), 0 ≤ zs[k] ∧ zs[k] ≤ 1000) (hs : 0 < zs.sum) {j k : Nat} (hjk : j ≤ k) (hk : k ≤ zs.length) : sp t zs j ≤ sp t zs k := by
  have h1 := sk_le hw hjk hk
  have h2 := sk_bd hw j (by omega)
  unfold sp
  exact dr_mono (Int.mul_nonneg ht h2.1) (Int.mul_le_mul_of_nonneg_left h1 ht) hs
/-- what a mass is divided into is joined to it again -/
theorem split_join {t : Int} {zs : List Int} (ht : 0 ≤ t) (ht2 : t ≤ 100000000) (hz : okI zs 1000 = true) (hs : 0 < zs.sum) :
    okI (dfs (sp t zs) zs.length) 100000000 = true ∧ (dfs (sp t zs) zs.length).sum = t := by
  have hw := (okI_of hz).2
  have hn := (okI_of hz).1
  constructor
  · unfold okI
    rw [Bool.and_eq_true, decide_eq_true_eq, List.all_eq_true, dfs_length]
    refine ⟨hn, fun x hx => ?_⟩
    obtain ⟨k, hk, rfl⟩ := List.getElem_of_mem hx
    rw [dfs_at hk]
    rw [dfs_length] at hk
    have m1 := sp_mono ht hw hs (show k ≤ k + 1 by omega) (by omega)
    have m2 := sp_mono ht hw hs (show k + 1 ≤ zs.length by omega) (Nat.le_refl _)
    have m3 := sp_mono ht hw hs (show 0 ≤ k by omega) (by omega)
    rw [sp_n ht hs] at m2
    rw [sp_0 hs] at m3
    rw [inB_iff]; omega
  · rw [dfs_sum, sp_n ht hs, sp_0 hs]; omega
/-! ### growth -/
theorem lst_goal {xs : List Pat} {s goal : Int} (hv : okS xs = true) (h0 : 0 ≤ s) (h1 : s ≤ 1000) (hg : 0 ≤ goal) :
    Ls (gp xs s goal) (lst (gp xs s goal)) ∧ (lst (gp xs s goal) : Int) ≤ goal := by
  have hG := gp_goal (goal := goal) hv h0 h1 hg
  have hL := lst_is hG
  refine ⟨hL, ?_⟩
  rcases Nat.lt_or_ge goal.toNat (lst (gp xs s goal)) with h | h
  · have := hL.no _ h; rw [hG] at this; cases this
  · omega
theorem has_0 {x : Pat} (h : Fits x) : has x 0 = 0 := by unfold has; rw [Int.mul_zero]; exact dr_zero (by omega)
theorem ma_none {xs : List Pat} {t : Int} (hv : okS xs = true) (ht : 0 ≤ t) : ∀ k, k ≤ xs.length → ma xs t 0 k = t
  | 0, _ => rfl
  | k + 1, h => by
    rw [ma_succ (show k < xs.length by omega), ma_none hv ht k (by omega)]
    unfold tk
    rw [has_0 (okS_at hv (show k < xs.length by omega))]
    omega
end Vm
end Go.Proofs.YtobcflcmlejajaaDoor

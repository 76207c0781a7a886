/-
  The mathematics of the law on the forest: more snow never protects better, a year later no less, the greatest height and the fewest years are just enough; and the law's own test of length.
-/
import Derived.Test.YtecobplmkdlagaaFoG
import Derived.Test.YtecobplmkdlagaaFoE
import Derived.Test.YtecobplmkdlagaaFoDr
namespace Go.Proofs.Ytecobplmkdlagaa
open Go.RowKit
set_option linter.unusedVariables false
namespace Fo
theorem inT {l x h : Int} (a : l ≤ x) (b : x ≤ h) : Ar.inB l x h = true := inB_iff.2 ⟨a, b⟩
theorem cd_zero {a b : Bool} {c : Int} (h : Cd.cd a b c = 0) : a = true ∧ b = true ∧ c = 0 := by
  cases a <;> cases b
  · exact absurd h (show ¬ (1 : Int) = 0 by decide)
  · exact absurd h (show ¬ (1 : Int) = 0 by decide)
  · exact absurd h (show ¬ (2 : Int) = 0 by decide)
  · exact ⟨rfl, rfl, h⟩
theorem ok1_ys {x : Std} (h : ok1 x = true) (k : Nat) : ok1 (ys k x) = true := by
  have f := ys_fits (ok1_fits h) k
  unfold ok1 at *
  rw [Bool.and_eq_true] at *
  exact ⟨by rw [ys_id]; exact h.1, okN_iff.2 f⟩
theorem pr_yr {x : Std} (h : Fits x) (s : Int) : pr x s ≤ pr (yr x) s := by
  have h1 := h.h1; have h2 := h.h2; have c1 := h.c1; have c2 := h.c2; have g1 := h.g1; have g2 := h.g2
  obtain ⟨a0, a1⟩ := dr_small (a := 5000 - x.he) (b := 50) (by omega) (by omega)
  obtain ⟨b0, b1⟩ := dr_small (a := 1000 - x.co) (b := 40) (by omega) (by omega)
  unfold pr yr
  simp only
  generalize Ar.dr (5000 - x.he) 50 = a at *
  generalize Ar.dr (1000 - x.co) 40 = b at *
  split <;> split <;> omega
theorem po_t {x : Std} {s : Int} (h : ok1 x = true) (h0 : 0 ≤ s) (h1 : s ≤ 2000) : poC x s = 0 ∧ poV x s = pr x s := by
  unfold poC poV
  rw [h, inT h0 h1]
  exact ⟨rfl, rfl⟩
theorem po_of {x : Std} {s : Int} (h : poC x s = 0) : ok1 x = true ∧ (0 ≤ s ∧ s ≤ 2000) ∧ poV x s = pr x s := by
  unfold poC at h
  obtain ⟨a, b, -⟩ := cd_zero h
  have := inB_iff.1 b
  exact ⟨a, this, (po_t a this.1 this.2).2⟩
theorem gr_t {x : Std} {y : Int} (h : ok1 x = true) (h0 : 0 ≤ y) (h1 : y ≤ 200) : grC x y = 0 ∧ grS x y = ys y.toNat x := by
  unfold grC grS
  rw [h, inT h0 h1]
  exact ⟨rfl, rfl⟩
theorem grS_id {x : Std} {y : Int} (h : x.id.length ≤ 1048576) : (grS x y).id.length ≤ 1048576 := by
  unfold grS
  cases ok1 x
  · rw [rs_f]; show ([] : List UInt8).length ≤ _; exact Nat.zero_le _
  · cases Ar.inB 0 y 200
    · rw [rs_tf]; show ([] : List UInt8).length ≤ _; exact Nat.zero_le _
    · rw [rs_t, ys_id]; exact h
theorem fa {x : Std} {s : Int} (h : poC x s = 0) : (0 ≤ s ∧ s ≤ 2000) ∧ 0 ≤ poV x s ∧ poV x s ≤ 1000 ∧ (poC x (s + 1) = 0 → poV x (s + 1) ≤ poV x s) ∧ grC x 1 = 0 ∧ poC (grS x 1) s = 0 ∧ poV x s ≤ poV (grS x 1) s := by
  obtain ⟨hx, hs, e⟩ := po_of h
  have hf := ok1_fits hx
  obtain ⟨g1, g2⟩ := gr_t hx (y := 1) (by omega) (by omega)
  rw [g2]
  obtain ⟨o1, o2⟩ := po_t (ok1_ys hx (1 : Int).toNat) hs.1 hs.2
  refine ⟨hs, by rw [e]; exact pr_lo _ _, by rw [e]; exact pr_hi _ _ hf, fun h2 => ?_, g1, o1, ?_⟩
  · rw [e, (po_of h2).2.2]; exact pr_anti x (by omega)
  · rw [e, o2]; exact pr_yr hf s
theorem tp_max {p : Nat → Bool} : ∀ (n k : Nat), tp p n = some k → ∀ j, k < j → j ≤ n → p j = false
  | 0, k, h, j, h1, h2 => by omega
  | n + 1, k, h, j, h1, h2 => by
    unfold tp at h
    split at h
    · injection h with h; omega
    · rename_i hn
      by_cases e : j = n + 1
      · subst e; simpa using hn
      · exact tp_max n k h j h1 (by omega)
theorem ff_min {p : Nat → Bool} : ∀ (n k a : Nat), ff p n k = some a → ∀ j, k ≤ j → j < a → p j = false
  | 0, _, _, h, _, _, _ => by cases h
  | n + 1, k, a, h, j, h1, h2 => by
    rw [ff] at h
    split at h
    · injection h with h; omega
    · rename_i hn
      by_cases e : j = k
      · subst e; simpa using hn
      · exact ff_min n (k + 1) a h j (by omega) h2
theorem oC_zero {o : Option Nat} (h : oC o = 0) : ∃ k, o = some k := by
  cases o with
  | none => exact absurd h (by decide)
  | some k => exact ⟨k, rfl⟩
theorem fb {y : Std} {l : Int} (h : msC y l = 0) : (0 ≤ msV y l ∧ msV y l ≤ 2000) ∧ poC y (msV y l) = 0 ∧ l ≤ poV y (msV y l) ∧ (poC y (msV y l + 1) = 0 → poV y (msV y l + 1) < l) := by
  unfold msC at h
  obtain ⟨a, b, c⟩ := cd_zero h
  obtain ⟨k, hk⟩ := oC_zero c
  have e : msV y l = (k : Int) := by unfold msV; rw [a, b, hk]; rfl
  obtain ⟨k1, k2⟩ := tp_le _ _ hk
  have k3 := tp_max _ _ hk
  obtain ⟨o1, o2⟩ := po_t (x := y) (s := (k : Int)) a (by omega) (by omega)
  rw [e]
  refine ⟨⟨by omega, by omega⟩, o1, ?_, fun h2 => ?_⟩
  · rw [o2]; unfold msP met at k2; exact of_decide_eq_true k2
  · obtain ⟨-, q1, q2⟩ := po_of h2
    have := k3 (k + 1) (by omega) (by omega)
    unfold msP met at this
    have := of_decide_eq_false this
    rw [q2]
    rw [show ((k + 1 : Nat) : Int) = (k : Int) + 1 by omega] at this
    omega
theorem fc1 {z : Std} {s l : Int} (h : ¬ yuC z s l = 0) : yuV z s l = 0 := by
  unfold yuC at h
  unfold yuV
  cases hz : ok1 z
  · rfl
  · cases hl : lim s l
    · rfl
    · rw [hz, hl, Cd.cd_t] at h
      rw [Cd.vl_t]
      cases ho : yuO z s l with
      | none => rfl
      | some k => rw [ho] at h; exact absurd rfl h
theorem fc2 {z : Std} {s l : Int} (h : yuC z s l = 0) : (0 ≤ yuV z s l ∧ yuV z s l ≤ 200) ∧ grC z (yuV z s l) = 0 ∧ poC (grS z (yuV z s l)) s = 0 ∧ l ≤ poV (grS z (yuV z s l)) s ∧
    (¬ yuV z s l = 0 → grC z (yuV z s l - 1) = 0 ∧ poC (grS z (yuV z s l - 1)) s = 0 ∧ poV (grS z (yuV z s l - 1)) s < l) := by
  unfold yuC at h
  obtain ⟨a, b, c⟩ := cd_zero h
  obtain ⟨hs, -⟩ := lim_of b
  obtain ⟨k, hk⟩ := oC_zero c
  have e : yuV z s l = (k : Int) := by unfold yuV; rw [a, b, hk]; rfl
  obtain ⟨-, k1, k2⟩ := ff_lt _ _ _ hk
  have k3 := ff_min _ _ _ hk
  rw [e]
  obtain ⟨g1, g2⟩ := gr_t (x := z) (y := (k : Int)) a (by omega) (by omega)
  rw [g2]
  rw [show ((k : Int)).toNat = k from rfl]
  obtain ⟨o1, o2⟩ := po_t (x := ys k z) (s := s) (ok1_ys a k) hs.1 hs.2
  refine ⟨⟨by omega, by omega⟩, g1, o1, ?_, fun hk0 => ?_⟩
  · rw [o2]; unfold yuP met at k2; exact of_decide_eq_true k2
  · obtain ⟨j, rfl⟩ : ∃ j, k = j + 1 := ⟨k - 1, by omega⟩
    have ej : ((j + 1 : Nat) : Int) - 1 = (j : Int) := by omega
    rw [ej]
    obtain ⟨g3, g4⟩ := gr_t (x := z) (y := (j : Int)) a (by omega) (by omega)
    rw [g4]
    rw [show ((j : Int)).toNat = j from rfl]
    obtain ⟨o3, o4⟩ := po_t (x := ys j z) (s := s) (ok1_ys a j) hs.1 hs.2
    have := k3 j (by omega) (by omega)
    unfold yuP met at this
    exact ⟨g3, o3, by rw [o4]; have := of_decide_eq_false this; omega⟩
end Fo
theorem bsOfRow {w : World} {a : Option Addr} {len cap : Nat} {zs : List Int}
    (h : (a = none ∧ len = 0 ∧ cap = 0 ∧ zs = []) ∨ ∃ x, a = some x ∧ len ≤ cap ∧ cap ≤ maxLen ∧ zs.length = cap ∧ (∀ i, i < zs.length → w.cell? (x.add i) = some (.int .u8 (zs.getD i 0))) ∧ ∀ n ∈ zs, (Lit.int .u8 n).wf = true) :
    Bs w.heap.size w (.slice a len cap) len := by
  rcases h with ⟨rfl, rfl, rfl, rfl⟩ | ⟨x, rfl, hl, hm, hz, hc, hw⟩
  · exact Or.inl ⟨rfl, _, _, rfl⟩
  · rcases Nat.eq_zero_or_pos len with h0 | h0
    · subst h0; exact Or.inl ⟨rfl, _, _, rfl⟩
    · obtain ⟨b, off, rfl, hc'⟩ := ints_at hc (by omega)
      have c0 := hc' 0 (by omega)
      refine Or.inr ⟨b, off, cap, rfl, World.block_lt_of_cell? w _ c0, fun j hj => ?_⟩
      have hr := range_u8 hw j
      refine ⟨zs[j]?.getD 0, hr.1, hr.2, ?_⟩
      rw [hc' j (by omega), List.getD_eq_getElem?_getD]
theorem bsMono {B B' : Nat} {w : World} {v : Value} {n : Nat} (h : Bs B w v n) (hb : B ≤ B') : Bs B' w v n := by
  rcases h with h | ⟨b, off, cap, rfl, hlt, hc⟩
  · exact Or.inl h
  · exact Or.inr ⟨b, off, cap, rfl, Nat.lt_of_lt_of_le hlt hb, hc⟩
theorem b10Long_no (w : World) (a : Option Addr) (n cn : Nat) (h1 : n ≤ 1048576) :
    Calls Try.prog 41 #[.slice a n cn] w fun e w' => e = .returned (.bool false) ∧ w = w' := by
  have h3 : ¬ (1048576 : Int) < n := by omega
  go_enter Try.func41, Try.ntmps41
  go_wp2
  go_ret
  exact ⟨rfl, rfl⟩
theorem b10Long_yes (w : World) (a : Option Addr) (n cn : Nat) (h1 : 1048576 < n) :
    Calls Try.prog 41 #[.slice a n cn] w fun e w' => e = .returned (.bool true) ∧ w = w' := by
  have h3 : (1048576 : Int) < n := by omega
  go_enter Try.func41, Try.ntmps41
  go_wp2
  go_ret
  exact ⟨rfl, rfl⟩
end Go.Proofs.Ytecobplmkdlagaa

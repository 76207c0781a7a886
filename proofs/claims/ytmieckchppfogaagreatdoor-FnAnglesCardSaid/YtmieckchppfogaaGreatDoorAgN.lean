import Derived.Test.YtmieckchppfogaaGreatDoorAgM
/-
  Plain mathematics of chapter 14: when a path is valid, what questions are answered. No Go in sight.
-/
namespace Go.Proofs.YtmieckchppfogaaGreatDoor
set_option linter.unusedVariables false

namespace An
theorem all_rng {n : Nat} {f : Nat → Bool} : (List.range n).all f = true ↔ ∀ k, k < n → f k = true := by
  rw [List.all_eq_true]
  exact ⟨fun h k hk => h k (List.mem_range.2 hk), fun h k hk => h k (List.mem_range.1 hk)⟩
/-- the point k is as it must be -/
def okA (xs : List Pth) (k : Nat) : Bool := Ar.inB 0 (nd xs k).di 20000 && (Ar.inB 0 (nd xs k).he 9000 && (decide ((nd xs k).he ≤ (nd xs 0).he) && (k == 0 || decide ((nd xs (k - 1)).di < (nd xs k).di))))
def okL (xs : List Pth) : Bool := decide (2 ≤ xs.length) && (decide (xs.length ≤ 24) && decide ((nd xs 0).di = 0))
/-- the path is valid -/
def okB (xs : List Pth) : Bool := okL xs && (List.range xs.length).all (okA xs)
theorem okB_bad {xs : List Pth} {k : Nat} (hk : k < xs.length) (h : okA xs k = false) : okB xs = false := by
  have : (List.range xs.length).all (okA xs) = false := by
    rw [Bool.eq_false_iff]; intro hc
    rw [all_rng.1 hc k hk] at h; cases h
  unfold okB; rw [this, Bool.and_false]
theorem okB_end {xs : List Pth} (h : ∀ k, k < xs.length → okA xs k = true) : okB xs = okL xs := by
  unfold okB; rw [all_rng.2 h, Bool.and_true]
theorem inB_of {l x h : Int} (e : Ar.inB l x h = true) : l ≤ x ∧ x ≤ h := by
  unfold Ar.inB at e
  rw [Bool.and_eq_true] at e
  exact ⟨of_decide_eq_true e.1, of_decide_eq_true e.2⟩
theorem okB_ok {xs : List Pth} (h : okB xs = true) : Ok xs := by
  unfold okB okL at h
  simp only [Bool.and_eq_true] at h
  obtain ⟨⟨h2, h24, hd⟩, ha⟩ := h
  have h2 := of_decide_eq_true h2
  have h24 := of_decide_eq_true h24
  have hd := of_decide_eq_true hd
  have ha := all_rng.1 ha
  have hk : ∀ k, k < xs.length → (0 ≤ (nd xs k).di ∧ (nd xs k).di ≤ 20000) ∧ (0 ≤ (nd xs k).he ∧ (nd xs k).he ≤ 9000) ∧ (nd xs k).he ≤ (nd xs 0).he ∧ (k = 0 ∨ (nd xs (k - 1)).di < (nd xs k).di) := by
    intro k hk
    have a := ha k hk
    unfold okA at a
    simp only [Bool.and_eq_true, Bool.or_eq_true] at a
    refine ⟨inB_of a.1, inB_of a.2.1, of_decide_eq_true a.2.2.1, ?_⟩
    rcases a.2.2.2 with b | b
    · left; exact eq_of_beq b
    · right; exact of_decide_eq_true b
  refine ⟨h2, h24, hd, fun k hk1 => ?_, fun k h => (hk k h).1.1, fun k h => (hk k h).1.2, fun k h => (hk k h).2.1.1, fun k h => (hk k h).2.2.1, fun k h => (hk k h).2.1.2⟩
  rcases (hk (k + 1) hk1).2.2.2 with b | b
  · omega
  · rw [show k + 1 - 1 = k by omega] at b; exact b
/-! the program's tests -/
def inP (x : Pth) : Bool := Ar.inB 0 x.di 20000 && Ar.inB 0 x.he 9000
def up (xs : List Pth) : Bool := (List.range (xs.length - 1)).all (fun k => decide ((nd xs k).di < (nd xs (k + 1)).di))
theorem nd_mem {xs : List Pth} {x : Pth} (h : x ∈ xs) : ∃ k, k < xs.length ∧ nd xs k = x := by
  obtain ⟨k, hk, e⟩ := List.getElem_of_mem h
  exact ⟨k, hk, (nd_at hk).trans e⟩
theorem any_f {xs : List Pth} {f : Pth → Bool} (h : xs.any f = false) {k : Nat} (hk : k < xs.length) : f (nd xs k) = false := by
  rw [List.any_eq_false] at h
  rw [nd_at hk, Bool.eq_false_iff]
  exact h _ (List.getElem_mem hk)
theorem any_t {xs : List Pth} {f : Pth → Bool} (h : xs.any f = true) : ∃ k, k < xs.length ∧ f (nd xs k) = true := by
  rw [List.any_eq_true] at h
  obtain ⟨x, hx, hf⟩ := h
  obtain ⟨k, hk, e⟩ := nd_mem hx
  exact ⟨k, hk, by rw [e]; exact hf⟩
theorem okB_len {xs : List Pth} (h : ¬ (2 ≤ xs.length ∧ xs.length ≤ 24)) : okB xs = false := by
  unfold okB okL
  by_cases h2 : 2 ≤ xs.length
  · rw [decide_eq_false (p := xs.length ≤ 24) (by omega)]; simp
  · rw [decide_eq_false h2]; rfl
theorem okB_wrong {xs : List Pth} (h : (xs.any fun x => !inP x) = true) : okB xs = false := by
  obtain ⟨k, hk, e⟩ := any_t h
  refine okB_bad hk ?_
  unfold inP at e
  unfold okA
  revert e
  cases Ar.inB 0 (nd xs k).di 20000 <;> cases Ar.inB 0 (nd xs k).he 9000 <;> simp
theorem okB_d0 {xs : List Pth} (h : ¬ (nd xs 0).di = 0) : okB xs = false := by
  unfold okB okL; rw [decide_eq_false h]; simp
theorem okB_up {xs : List Pth} (h : up xs = false) : okB xs = false := by
  rw [Bool.eq_false_iff]; intro hc
  have o := okB_ok hc
  have : up xs = true := all_rng.2 (fun k hk => decide_eq_true (o.inc k (by omega)))
  rw [h] at this; cases this
theorem okB_high {xs : List Pth} (h : (xs.any fun x => decide ((nd xs 0).he < x.he)) = true) : okB xs = false := by
  obtain ⟨k, hk, e⟩ := any_t h
  refine okB_bad hk ?_
  have := of_decide_eq_true e
  unfold okA; rw [decide_eq_false (p := (nd xs k).he ≤ (nd xs 0).he) (by omega)]; simp
theorem okB_good {xs : List Pth} (h2 : 2 ≤ xs.length) (h24 : xs.length ≤ 24) (hw : (xs.any fun x => !inP x) = false) (hd : (nd xs 0).di = 0) (hu : up xs = true) (hh : (xs.any fun x => decide ((nd xs 0).he < x.he)) = false) : okB xs = true := by
  rw [okB_end]
  · unfold okL; rw [decide_eq_true h2, decide_eq_true h24, decide_eq_true hd]; rfl
  · intro k hk
    have a := any_f hw hk
    have b := of_decide_eq_false (any_f hh hk)
    have c : (k == 0 || decide ((nd xs (k - 1)).di < (nd xs k).di)) = true := by
      by_cases h0 : k = 0
      · subst h0; rfl
      · have := all_rng.1 hu (k - 1) (by omega)
        rw [show k - 1 + 1 = k by omega] at this
        rw [this, Bool.or_true]
    unfold inP at a
    unfold okA
    rw [c, decide_eq_true (p := (nd xs k).he ≤ (nd xs 0).he) (by omega)]
    revert a
    cases Ar.inB 0 (nd xs k).di 20000 <;> cases Ar.inB 0 (nd xs k).he 9000 <;> simp
/-! ### what is answered -/
def tg (t : Int) : Bool := Ar.inB 1 t 3000
def al (xs : List Pth) (d : Int) : Bool := Ar.inB 0 d (la xs)
def alP (xs : List Pth) (d : Int) : Bool := decide (0 < xs.length) && al xs d
theorem alP_ok {xs : List Pth} (d : Int) (h : okB xs = true) : alP xs d = al xs d := by
  have := (okB_ok h).n2
  unfold alP; rw [decide_eq_true (by omega), Bool.true_and]
/-- the tangent to a point -/
def tn (xs : List Pth) (k : Nat) : Int := Ar.dr (1000 * ((nd xs 0).he - (nd xs k).he)) (nd xs k).di
theorem tn_bd {xs : List Pth} (o : Ok xs) {k : Nat} (hk : k < xs.length) (h0 : 0 < k) : 0 ≤ tn xs k ∧ tn xs k ≤ 9000001 ∧ 0 < (nd xs k).di := by
  have a := o.lt h0 hk
  rw [o.d0] at a
  have b := o.hh k hk
  have c := o.h9 0 (by omega)
  have e := o.hl k hk
  have := Ar.drp_bd (a := 1000 * ((nd xs 0).he - (nd xs k).he)) (b := (nd xs k).di) (by omega) a
  have hd : Ar.dr (1000 * ((nd xs 0).he - (nd xs k).he)) (nd xs k).di = Ar.drp (1000 * ((nd xs 0).he - (nd xs k).he)) (nd xs k).di := by unfold Ar.dr; rw [if_neg (by omega)]
  unfold tn; rw [hd]
  omega
def kP (xs : List Pth) (k : Int) : Bool := Ar.inB 1 k ((xs.length : Int) - 1)
/-- where a mass stops: 0 and 4 where it does not -/
def sV (xs : List Pth) (t : Int) : Int := if st xs t < (la xs).toNat then (st xs t : Int) + 1 else 0
def sC (xs : List Pth) (t c : Int) : Int := if st xs t < (la xs).toNat then 0 else c
/-- it has stopped -/
def sB (xs : List Pth) (t d : Int) : Bool := decide (st xs t < (la xs).toNat) && decide ((st xs t : Int) + 1 ≤ d)
theorem hi_nn {xs : List Pth} (o : Ok xs) {t d : Int} (h0 : 0 ≤ d) (h1 : d ≤ la xs) (h : sB xs t d = false) : 0 ≤ hi xs t d := by
  by_cases hz : d = 0
  · subst hz; rw [hi_0 o]; exact Int.le_refl _
  · have hs := st_le xs t
    have : d ≤ st xs t := by
      unfold sB at h
      rcases Nat.lt_or_ge (st xs t) (la xs).toNat with hx | hx
      · rw [decide_eq_true hx, Bool.true_and] at h
        have := of_decide_eq_false h; omega
      · omega
    have := st_no (xs := xs) (t := t) (by omega) this
    omega
theorem hi_le {xs : List Pth} (o : Ok xs) {t d : Int} (ht : 0 ≤ t) (h0 : 0 ≤ d) (h1 : d ≤ la xs) : hi xs t d ≤ 9000000 := by
  have a := gr_bd o h0 h1
  have b := o.h9 0 (by have := o.n2; omega)
  have c := Int.mul_nonneg ht h0
  unfold hi en; omega
theorem en_bd {xs : List Pth} (o : Ok xs) {t d : Int} (ht : 0 ≤ t) (ht2 : t ≤ 3000) (h0 : 0 ≤ d) (h1 : d ≤ 20000) : -60000000 ≤ en xs t d ∧ en xs t d ≤ 9000000 ∧ 0 ≤ t * d ∧ t * d ≤ 60000000 := by
  have b := o.h9 0 (by have := o.n2; omega)
  have e := o.hl 0 (by have := o.n2; omega)
  have c := Int.mul_nonneg ht h0
  have c2 := Int.mul_le_mul ht2 h1 h0 (by omega)
  unfold en; omega
theorem hi_bd {xs : List Pth} (o : Ok xs) {t d : Int} (ht : 0 ≤ t) (ht2 : t ≤ 3000) (h0 : 0 ≤ d) (h1 : d ≤ la xs) : -69000000 ≤ hi xs t d ∧ hi xs t d ≤ 9000000 := by
  have a := gr_bd o h0 h1
  have l := o.last
  have e := en_bd o ht ht2 h0 (by omega)
  have b := o.h9 0 (by have := o.n2; omega)
  unfold hi; omega
/-- the tangent for a stop -/
def tp (xs : List Pth) (d t : Int) : Bool := sB xs t d
theorem sB_steep {xs : List Pth} {d t u : Int} (h : t ≤ u) (hs : sB xs t d = true) : sB xs u d = true := by
  have := st_steep (xs := xs) h
  unfold sB at *
  simp only [Bool.and_eq_true, decide_eq_true_eq] at *
  omega
def tf (xs : List Pth) (d : Int) : Nat := fi (fun i => sB xs ((i : Int) + 1) d) 3000
def tV (xs : List Pth) (d : Int) : Int := if tf xs d < 3000 then (tf xs d : Int) + 1 else 0
def tC (xs : List Pth) (d c : Int) : Int := if tf xs d < 3000 then 0 else c
theorem tf_eq {xs : List Pth} {d : Int} {k : Nat} (hk : k ≤ 3000) (h1 : ∀ i : Nat, i < k → sB xs ((i : Int) + 1) d = false) (h2 : k < 3000 → sB xs ((k : Int) + 1) d = true) : tf xs d = k := fi_eq hk h1 h2
/-- the beta point -/
def bP (xs : List Pth) (k : Nat) : Bool := decide (1000 * ((nd xs (k + 1)).he - (nd xs (k + 2)).he) < 176 * ((nd xs (k + 2)).di - (nd xs (k + 1)).di))
def bt0 (xs : List Pth) : Nat := fi (bP xs) (xs.length - 2)
def bF (xs : List Pth) : Bool := decide (bt0 xs < xs.length - 2)
def bV (xs : List Pth) : Int := if bF xs = true then (bt0 xs : Int) + 1 else 0
def bC (xs : List Pth) (c : Int) : Int := if bF xs = true then 0 else c
theorem bt_at {xs : List Pth} (h : bF xs = true) : bt0 xs + 2 < xs.length := by
  have := of_decide_eq_true h; omega
/-- alpha -/
def aV (xs : List Pth) (a b : Int) : Int := Ar.dr (a * tn xs (bt0 xs + 1)) 1000 - b
def ab (a b : Int) : Bool := Ar.inB 1 a 2000 && Ar.inB 0 b 1000
theorem aV_bd {xs : List Pth} (o : Ok xs) {a b : Int} (h : bF xs = true) (h1 : 1 ≤ a) (h2 : a ≤ 2000) (h3 : 0 ≤ b) (h4 : b ≤ 1000) : 0 ≤ a * tn xs (bt0 xs + 1) ∧ a * tn xs (bt0 xs + 1) ≤ 18000002000 ∧ 0 ≤ Ar.dr (a * tn xs (bt0 xs + 1)) 1000 ∧ Ar.dr (a * tn xs (bt0 xs + 1)) 1000 ≤ 18000002001 ∧ -1000 ≤ aV xs a b ∧ aV xs a b ≤ 18000002001 := by
  have hb := bt_at h
  obtain ⟨t1, t2, t3⟩ := tn_bd o (k := bt0 xs + 1) (by omega) (by omega)
  have c := Int.mul_nonneg (show 0 ≤ a by omega) t1
  have c2 := Int.mul_le_mul h2 t2 t1 (by omega)
  have d := Ar.drp_bd (a := a * tn xs (bt0 xs + 1)) (b := 1000) c (by omega)
  have hd : Ar.dr (a * tn xs (bt0 xs + 1)) 1000 = Ar.drp (a * tn xs (bt0 xs + 1)) 1000 := by unfold Ar.dr; rw [if_neg (by omega)]
  unfold aV; rw [hd]
  omega
/-- AlphaOf behind its tests: what is found, and its code (4 not found, 6 state, as the constants say) -/
def lV (xs : List Pth) (a b : Int) : Int := if bF xs = true then (if tg (aV xs a b) = true then aV xs a b else 0) else 0
def lC (xs : List Pth) (a b nf se : Int) : Int := if bF xs = true then (if tg (aV xs a b) = true then 0 else se) else nf
end An
end Go.Proofs.YtmieckchppfogaaGreatDoor

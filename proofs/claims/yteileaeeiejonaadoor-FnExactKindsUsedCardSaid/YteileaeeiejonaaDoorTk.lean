import Derived.Test.YteileaeeiejonaaDoorTst
/-
  Plain mathematics of chapter 8: when tests are valid, their classes, and what the questions answer. No Go in sight.
-/
namespace Go.Proofs.YteileaeeiejonaaDoor
namespace Tq
theorem inB_iff {l x h : Int} : Ar.inB l x h = true ↔ l ≤ x ∧ x ≤ h := by unfold Ar.inB; simp
theorem nt {b : Bool} (h : ¬ b = true) : b = false := by simpa using h
def bot (k : Int) : Int := if k = 3 then 1 else 0
def top (k : Int) : Int := if k = 3 then 7 else 31
/-- is a test as stated? -/
def okT (x : Tst) : Bool := Ar.inB 1 x.ki 3 && (Ar.inB (bot x.ki) x.sc (top x.ki) && (Ar.inB 1 x.qu 3 && (Ar.inB 1 x.de 300 && Ar.inB 0 x.ho 100000)))
structure Fits (x : Tst) : Prop where
  k1 : 1 ≤ x.ki
  k2 : x.ki ≤ 3
  s1 : bot x.ki ≤ x.sc
  s2 : x.sc ≤ top x.ki
  q1 : 1 ≤ x.qu
  q2 : x.qu ≤ 3
  d1 : 1 ≤ x.de
  d2 : x.de ≤ 300
  h1 : 0 ≤ x.ho
  h2 : x.ho ≤ 100000
theorem okT_iff (x : Tst) : okT x = true ↔ Fits x := by
  unfold okT
  simp only [Bool.and_eq_true, inB_iff]
  exact ⟨fun ⟨a, b, c, d, e⟩ => ⟨a.1, a.2, b.1, b.2, c.1, c.2, d.1, d.2, e.1, e.2⟩, fun h => ⟨⟨h.k1, h.k2⟩, ⟨h.s1, h.s2⟩, ⟨h.q1, h.q2⟩, ⟨h.d1, h.d2⟩, h.h1, h.h2⟩⟩
theorem okT_k {x : Tst} (h : Ar.inB 1 x.ki 3 = false) : okT x = false := by unfold okT; rw [h]; simp
theorem okT_s {x : Tst} (h : Ar.inB (bot x.ki) x.sc (top x.ki) = false) : okT x = false := by unfold okT; rw [h]; simp
theorem okT_q {x : Tst} (h : Ar.inB 1 x.qu 3 = false) : okT x = false := by unfold okT; rw [h]; simp
theorem okT_d {x : Tst} (h : Ar.inB 1 x.de 300 = false) : okT x = false := by unfold okT; rw [h]; simp
theorem okT_h {x : Tst} (h : Ar.inB 0 x.ho 100000 = false) : okT x = false := by unfold okT; rw [h]; simp
theorem okT_all {x : Tst} (hk : Ar.inB 1 x.ki 3 = true) (hs : Ar.inB (bot x.ki) x.sc (top x.ki) = true) (hq : Ar.inB 1 x.qu 3 = true) (hd : Ar.inB 1 x.de 300 = true) : okT x = Ar.inB 0 x.ho 100000 := by unfold okT; rw [hk, hs, hq, hd]; simp
theorem okT_3 {x : Tst} (hk : x.ki = 3) (hq : Ar.inB 1 x.qu 3 = true) (hd : Ar.inB 1 x.de 300 = true) (hh : Ar.inB 0 x.ho 100000 = true) : okT x = Ar.inB 1 x.sc 7 := by
  unfold okT bot top; rw [hk, hq, hd, hh, if_pos rfl, if_pos rfl]; simp [Ar.inB]
theorem okT_12 {x : Tst} (hk : x.ki = 1 ∨ x.ki = 2) (hq : Ar.inB 1 x.qu 3 = true) (hd : Ar.inB 1 x.de 300 = true) (hh : Ar.inB 0 x.ho 100000 = true) : okT x = Ar.inB 0 x.sc 31 := by
  unfold okT bot top; rw [hq, hd, hh, if_neg (by omega), if_neg (by omega), Ar.inB_t (l := 1) (x := x.ki) (h := 3) (by omega) (by omega)]; simp
theorem okT_n {x : Tst} (hk : ¬ (1 ≤ x.ki ∧ x.ki ≤ 3)) : okT x = false := okT_k (Ar.inB_f hk)

/-- how many of these a score is above -/
def cnt (s : Int) : List Int → Int
  | [] => 0
  | l :: ls => (if l < s then 1 else 0) + cnt s ls
theorem cnt_app (s : Int) (xs ys : List Int) : cnt s (xs ++ ys) = cnt s xs + cnt s ys := by
  induction xs with
  | nil => simp [cnt]
  | cons x xs ih => rw [List.cons_append, cnt, cnt, ih]; omega
theorem cnt_bd (s : Int) (xs : List Int) : 0 ≤ cnt s xs ∧ cnt s xs ≤ xs.length := by
  induction xs with
  | nil => simp [cnt]
  | cons x xs ih => rw [cnt, List.length_cons]; split <;> omega
theorem cnt_take {s : Int} {xs : List Int} {k : Nat} (h : k < xs.length) : cnt s (xs.take (k + 1)) = cnt s (xs.take k) + (if xs[k] < s then 1 else 0) := by
  rw [List.take_succ_eq_append_getElem h, cnt_app]; simp [cnt]
/-- the greatest scores of the classes below the best one -/
def lims (k : Int) : List Int := if k = 3 then [2, 4, 6] else if k = 2 then [13, 22, 30] else [10, 20, 30]
theorem lims_len (k : Int) : (lims k).length = 3 := by unfold lims; split <;> (try split) <;> rfl
/-- the class of a test -/
def cls (x : Tst) : Int := max 1 (min 4 (1 + cnt x.sc (lims x.ki) + x.qu - 2))
theorem cls_bd (x : Tst) : 1 ≤ cls x ∧ cls x ≤ 4 := by unfold cls; omega
theorem cls_last {x : Tst} (h : Fits x) : cnt x.sc (lims x.ki ++ [top x.ki]) = cnt x.sc (lims x.ki) := by
  have := h.s2
  rw [cnt_app]; simp only [cnt]; rw [if_neg (by omega)]; omega

/-- no hour is less than the one before it, the first one no less than p -/
def up : Int → List Tst → Bool
  | _, [] => true
  | p, x :: xs => decide (p ≤ x.ho) && up x.ho xs
def la : Int → List Tst → Int
  | p, [] => p
  | _, x :: xs => la x.ho xs
theorem la_app (p : Int) (xs : List Tst) (x : Tst) : la p (xs ++ [x]) = x.ho := by
  induction xs generalizing p with
  | nil => rfl
  | cons y ys ih => rw [List.cons_append, la]; exact ih _
theorem up_app (p : Int) (xs : List Tst) (x : Tst) : up p (xs ++ [x]) = (up p xs && decide (la p xs ≤ x.ho)) := by
  induction xs generalizing p with
  | nil => rw [List.nil_append, up, up, up, la, Bool.and_true, Bool.true_and]
  | cons y ys ih => rw [List.cons_append, up, up, la, ih, Bool.and_assoc]
theorem la_take {xs : List Tst} {k : Nat} (p : Int) (h : k < xs.length) : la p (xs.take (k + 1)) = xs[k].ho := by
  rw [List.take_succ_eq_append_getElem h, la_app]
theorem up_snoc {xs : List Tst} {k : Nat} {p : Int} (h : k < xs.length) (hp : up p (xs.take k) = true) (hl : la p (xs.take k) ≤ xs[k].ho) : up p (xs.take (k + 1)) = true := by
  rw [List.take_succ_eq_append_getElem h, up_app, hp]; simpa using hl
theorem up_ge {p : Int} {xs : List Tst} (h : up p xs = true) {i : Nat} (hi : i < xs.length) : p ≤ xs[i].ho := by
  induction xs generalizing p i with
  | nil => cases hi
  | cons y ys ih =>
    rw [up, Bool.and_eq_true, decide_eq_true_eq] at h
    cases i with
    | zero => exact h.1
    | succ i => have := ih h.2 (show i < ys.length by simpa using hi); rw [List.getElem_cons_succ]; omega
theorem up_next {p : Int} {xs : List Tst} (h : up p xs = true) {i : Nat} (hi : i + 1 < xs.length) : (xs[i]'(by omega)).ho ≤ xs[i + 1].ho := by
  induction xs generalizing p i with
  | nil => cases hi
  | cons y ys ih =>
    rw [up, Bool.and_eq_true, decide_eq_true_eq] at h
    cases i with
    | zero => exact up_ge h.2 (show 0 < ys.length by simpa using hi)
    | succ i => exact ih h.2 (show i + 1 < ys.length by simpa using hi)
theorem up_mk {p : Int} {xs : List Tst} (h0 : ∀ x ∈ xs, p ≤ x.ho) (h : ∀ i (hi : i + 1 < xs.length), (xs[i]'(by omega)).ho ≤ xs[i + 1].ho) : up p xs = true := by
  induction xs generalizing p with
  | nil => rfl
  | cons y ys ih =>
    have hy := h0 y (List.mem_cons_self ..)
    rw [up, Bool.and_eq_true, decide_eq_true_eq]
    refine ⟨hy, ih ?_ ?_⟩
    · intro x hx
      obtain ⟨i, hi, rfl⟩ := List.getElem_of_mem hx
      clear hx
      induction i with
      | zero => exact h 0 (by simpa using hi)
      | succ i ih2 =>
        have := ih2 (by omega)
        have h2 := h (i + 1) (by simp; omega)
        simp only [List.getElem_cons_succ] at h2
        omega
    · intro i hi
      have := h (i + 1) (by simp; omega)
      simpa using this
/-- are tests valid? -/
def okS (xs : List Tst) : Bool := decide (xs.length ≤ 16) && (xs.all okT && up 0 xs)
theorem okS_iff (xs : List Tst) : okS xs = true ↔ xs.length ≤ 16 ∧ (∀ x ∈ xs, Fits x) ∧ up 0 xs = true := by
  unfold okS
  simp only [Bool.and_eq_true, decide_eq_true_eq, List.all_eq_true, okT_iff]
theorem okS_long {xs : List Tst} (h : 16 < xs.length) : okS xs = false := by unfold okS; rw [decide_eq_false (by omega)]; rfl
theorem okS_bad {xs : List Tst} {k : Nat} (h : k < xs.length) (hb : okT xs[k] = false) : okS xs = false := by
  rw [Bool.eq_false_iff]; intro hc
  have := (okT_iff _).2 (((okS_iff xs).1 hc).2.1 _ (List.getElem_mem h))
  rw [hb] at this; cases this
theorem okS_turn {xs : List Tst} {k : Nat} (h0 : 0 < k) (h : k < xs.length) (hb : xs[k].ho < (xs[k - 1]'(by omega)).ho) : okS xs = false := by
  rw [Bool.eq_false_iff]; intro hc
  obtain ⟨m, rfl⟩ : ∃ m, k = m + 1 := ⟨k - 1, by omega⟩
  have := up_next ((okS_iff xs).1 hc).2.2 h
  simp only [Nat.add_sub_cancel] at hb
  omega
theorem okS_all {xs : List Tst} (h : (xs.take xs.length).all okT = true) (hu : up 0 (xs.take xs.length) = true) : okS xs = decide (xs.length ≤ 16) := by
  rw [List.take_length] at h hu; unfold okS; rw [h, hu]; simp
theorem all_snoc {xs : List Tst} {k : Nat} (h : k < xs.length) (hp : (xs.take k).all okT = true) (hx : okT xs[k] = true) : (xs.take (k + 1)).all okT = true := by
  rw [List.take_succ_eq_append_getElem h, List.all_append, hp]; simp [hx]
theorem fits_at {xs : List Tst} (h : okS xs = true) {k : Nat} (hk : k < xs.length) : Fits xs[k] := ((okS_iff xs).1 h).2.1 _ (List.getElem_mem hk)
theorem len_ok {xs : List Tst} (h : okS xs = true) : xs.length ≤ 16 := ((okS_iff xs).1 h).1

/-- the places of those of whom p holds, from o on -/
def ixs (p : Tst → Bool) : Nat → List Tst → List Int
  | _, [] => []
  | o, x :: xs => (if p x then [(o : Int)] else []) ++ ixs p (o + 1) xs
theorem ixs_app (p : Tst → Bool) (o : Nat) (xs : List Tst) (x : Tst) : ixs p o (xs ++ [x]) = ixs p o xs ++ (if p x then [((o + xs.length : Nat) : Int)] else []) := by
  induction xs generalizing o with
  | nil => simp [ixs]
  | cons y ys ih =>
    rw [List.cons_append, ixs, ixs, ih, List.append_assoc, List.length_cons]
    rw [show o + 1 + ys.length = o + (ys.length + 1) by omega]
theorem ixs_take {p : Tst → Bool} {xs : List Tst} {k : Nat} (h : k < xs.length) : ixs p 0 (xs.take (k + 1)) = ixs p 0 (xs.take k) ++ (if p xs[k] then [(k : Int)] else []) := by
  rw [List.take_succ_eq_append_getElem h, ixs_app, List.length_take, Nat.min_eq_left (by omega), Nat.zero_add]
theorem ixs_yes {p : Tst → Bool} {xs : List Tst} {k : Nat} (h : k < xs.length) (hp : p xs[k] = true) : ixs p 0 (xs.take (k + 1)) = ixs p 0 (xs.take k) ++ [(k : Int)] := by rw [ixs_take h, if_pos hp]
theorem ixs_no {p : Tst → Bool} {xs : List Tst} {k : Nat} (h : k < xs.length) (hp : p xs[k] = false) : ixs p 0 (xs.take (k + 1)) = ixs p 0 (xs.take k) := by rw [ixs_take h, hp]; simp
theorem ixs_len (p : Tst → Bool) (o : Nat) (xs : List Tst) : (ixs p o xs).length ≤ xs.length := by
  induction xs generalizing o with
  | nil => simp [ixs]
  | cons y ys ih => have := ih (o + 1); rw [ixs, List.length_append, List.length_cons]; split <;> simp <;> omega
theorem ixs_mem {p : Tst → Bool} {o : Nat} {xs : List Tst} {z : Int} (h : z ∈ ixs p o xs) : ∃ k : Nat, z = ((o + k : Nat) : Int) ∧ k < xs.length := by
  induction xs generalizing o with
  | nil => cases h
  | cons y ys ih =>
    rw [ixs, List.mem_append] at h
    rcases h with h | h
    · split at h
      · simp only [List.mem_singleton] at h; exact ⟨0, by omega, by simp⟩
      · cases h
    · obtain ⟨k, rfl, hk⟩ := ih h
      exact ⟨k + 1, by omega, by simp; omega⟩
/-- is a test from the hours a to b? -/
def isIn (a b : Int) (x : Tst) : Bool := Ar.inB a x.ho b
/-- the number in a place -/
def nth (xs : List Tst) (i : Nat) : Tst := xs.getD i ⟨0, 0, 0, 0, 0⟩
theorem nth_eq {xs : List Tst} {i : Nat} (h : i < xs.length) : nth xs i = xs[i] := by unfold nth; rw [List.getD_eq_getElem?_getD, List.getElem?_eq_getElem h]; rfl
/-- the classes of those in these places together -/
def csum (xs : List Tst) : List Int → Int
  | [] => 0
  | i :: is => cls (nth xs i.toNat) + csum xs is
theorem csum_app (xs : List Tst) (a b : List Int) : csum xs (a ++ b) = csum xs a + csum xs b := by
  induction a with
  | nil => simp [csum]
  | cons i is ih => rw [List.cons_append, csum, csum, ih]; omega
theorem csum_take {xs : List Tst} {is : List Int} {k : Nat} (h : k < is.length) : csum xs (is.take (k + 1)) = csum xs (is.take k) + cls (nth xs (is[k]).toNat) := by
  rw [List.take_succ_eq_append_getElem h, csum_app]; simp [csum]
theorem csum_bd (xs : List Tst) (is : List Int) : 0 ≤ csum xs is ∧ csum xs is ≤ 4 * is.length := by
  induction is with
  | nil => simp [csum]
  | cons i is ih => have := cls_bd (nth xs i.toNat); rw [csum, List.length_cons]; omega
/-- the least class -/
def mn : List Tst → Int
  | [] => 4
  | x :: xs => min (cls x) (mn xs)
theorem mn_app (xs : List Tst) (x : Tst) : mn (xs ++ [x]) = min (mn xs) (cls x) := by
  induction xs with
  | nil => have := cls_bd x; simp only [List.nil_append, mn]; omega
  | cons y ys ih => rw [List.cons_append, mn, mn, ih]; omega
theorem mn_take {xs : List Tst} {k : Nat} (h : k < xs.length) : mn (xs.take (k + 1)) = min (mn (xs.take k)) (cls xs[k]) := by
  rw [List.take_succ_eq_append_getElem h, mn_app]
theorem mn_bd (xs : List Tst) : 1 ≤ mn xs ∧ mn xs ≤ 4 := by
  induction xs with
  | nil => simp [mn]
  | cons x xs ih => have := cls_bd x; rw [mn]; omega
end Tq
end Go.Proofs.YteileaeeiejonaaDoor

/-
  Plain mathematics of chapter 15: the assets in each cell as sets, and which are exposed. No Go in sight.
-/
import Derived.Test.YtaldmdammipfjaaDoorEx
import Derived.Test.YtaldmdammipfjaaDoorGrA
namespace Go.Proofs.YtaldmdammipfjaaDoor
namespace Ex
set_option linter.unusedVariables false
theorem od0 {a b o : Bool} (h : odC a b o = 0) : a = true ∧ b = true ∧ o = true := by
  cases a <;> cases b <;> cases o <;> first | exact ⟨rfl, rfl, rfl⟩ | (revert h; decide)
theorem up_le {n : Nat} : ∀ (xs : List Int) (p : Option Int) (lo : Int), Rl.up p xs = true → (∀ x ∈ xs, lo ≤ x ∧ x < lo + n) → xs.length ≤ n
  | [], _, _, _, _ => Nat.zero_le _
  | x :: xs, p, lo, h, hb => by
    have hx := hb x (List.mem_cons_self ..)
    have h2 : Rl.up (some x) xs = true := by
      have h' : (Rl.be p x && Rl.up (some x) xs) = true := h
      rw [Bool.and_eq_true] at h'; exact h'.2
    have hgt : ∀ (ys : List Int) (q : Int), Rl.up (some q) ys = true → ∀ y ∈ ys, q < y := by
      intro ys
      induction ys with
      | nil => intro q _ y hy; cases hy
      | cons z ys ih =>
        intro q hq y hy
        have h' : (Rl.be (some q) z && Rl.up (some z) ys) = true := hq
        rw [Bool.and_eq_true] at h'
        have hz : q < z := of_decide_eq_true h'.1
        rcases List.mem_cons.1 hy with rfl | hy
        · exact hz
        · have := ih z h'.2 y hy; omega
    have hn : 1 ≤ n := by omega
    have := up_le (n := n - 1) xs (some x) (lo + 1) h2 (fun y hy => by
      have h3 := hgt xs x h2 y hy
      have h4 := hb y (List.mem_cons_of_mem _ hy)
      omega)
    rw [List.length_cons]; omega
theorem ok1_ce {n : Nat} {x : Ast} (h : ok1 n x = true) : x.ce.length ≤ n := by
  obtain ⟨-, -, h3, h4, -, -⟩ := ok1_of h
  exact up_le x.ce none 0 h4 (fun y hy => by have := h3 y hy; omega)
/-! ### the assets in each cell -/
/-- the set of a cell, out of pairs of an asset and a cell -/
def fP (P : List (Nat × Int)) (y : Int) : Nat := P.foldl (fun s p => if p.2 = y then s ||| 2 ^ p.1 else s) 0
theorem fP_nil (y : Int) : fP [] y = 0 := rfl
theorem fP_snoc (P : List (Nat × Int)) (i : Nat) (c y : Int) : fP (P ++ [(i, c)]) y = if c = y then fP P y ||| 2 ^ i else fP P y := by unfold fP; rw [List.foldl_append]; rfl
theorem fP_bit_go (P : List (Nat × Int)) (y : Int) (i s : Nat) : (P.foldl (fun s p => if p.2 = y then s ||| 2 ^ p.1 else s) s).testBit i = (s.testBit i || P.any (fun p => decide (p.2 = y) && decide (p.1 = i))) := by
  induction P generalizing s with
  | nil => simp
  | cons p P ih =>
    rw [List.foldl_cons, ih, List.any_cons]
    by_cases h : p.2 = y
    · rw [if_pos h, Nat.testBit_or, Nat.testBit_two_pow, decide_eq_true h, Bool.true_and, Bool.or_assoc]
    · rw [if_neg h, decide_eq_false h, Bool.false_and, Bool.false_or]
theorem fP_bit (P : List (Nat × Int)) (y : Int) (i : Nat) : (fP P y).testBit i = P.any (fun p => decide (p.2 = y) && decide (p.1 = i)) := by unfold fP; rw [fP_bit_go]; simp
theorem fP_lt_go (P : List (Nat × Int)) (y : Int) (s : Nat) (hs : s < 2 ^ 64) (h : ∀ p ∈ P, p.1 < 64) : P.foldl (fun s p => if p.2 = y then s ||| 2 ^ p.1 else s) s < 2 ^ 64 := by
  induction P generalizing s with
  | nil => exact hs
  | cons p P ih =>
    rw [List.foldl_cons]
    refine ih _ ?_ (fun q hq => h q (List.mem_cons_of_mem _ hq))
    split
    · exact Nat.or_lt_two_pow hs (Nat.pow_lt_pow_right (by decide) (h p (List.mem_cons_self ..)))
    · exact hs
theorem fP_lt {P : List (Nat × Int)} (y : Int) (h : ∀ p ∈ P, p.1 < 64) : fP P y < 18446744073709551616 := by
  have := fP_lt_go P y 0 (by decide) h
  unfold fP
  simpa using this
def ceAt (xs : List Ast) (k : Nat) : List Int := match xs[k]? with | some x => x.ce | none => []
theorem ceAt_in {xs : List Ast} {k : Nat} (h : k < xs.length) : ceAt xs k = xs[k].ce := by unfold ceAt; rw [List.getElem?_eq_getElem h]
/-- the pairs of the first assets -/
def prK (xs : List Ast) : Nat → List (Nat × Int)
  | 0 => []
  | k + 1 => prK xs k ++ (ceAt xs k).map (fun c => (k, c))
theorem prK_mem {xs : List Ast} {n : Nat} {p : Nat × Int} : p ∈ prK xs n ↔ p.1 < n ∧ p.2 ∈ ceAt xs p.1 := by
  induction n with
  | zero => simp [prK]
  | succ n ih =>
    rw [prK, List.mem_append, ih, List.mem_map]
    constructor
    · rintro (⟨h1, h2⟩ | ⟨c, h1, rfl⟩)
      · exact ⟨by omega, h2⟩
      · exact ⟨by simp, h1⟩
    · rintro ⟨h1, h2⟩
      by_cases h : p.1 < n
      · exact Or.inl ⟨h, h2⟩
      · have e : p.1 = n := by omega
        exact Or.inr ⟨p.2, by rw [← e]; exact h2, by rw [← e]⟩
/-- the pairs of the first assets and of the first cells of the next one -/
def prJ (xs : List Ast) (k j : Nat) : List (Nat × Int) := prK xs k ++ ((ceAt xs k).take j).map (fun c => (k, c))
theorem prJ_zero (xs : List Ast) (k : Nat) : prJ xs k 0 = prK xs k := by unfold prJ; simp
theorem prJ_snoc {xs : List Ast} {k j : Nat} (h : j < (ceAt xs k).length) : prJ xs k (j + 1) = prJ xs k j ++ [(k, (ceAt xs k)[j])] := by
  unfold prJ; rw [List.take_succ_eq_append_getElem h, List.map_append, List.append_assoc]; rfl
theorem prJ_all {xs : List Ast} {k j : Nat} (h : (ceAt xs k).length ≤ j) : prJ xs k j = prK xs (k + 1) := by unfold prJ; rw [List.take_of_length_le h]; rfl
theorem prJ_lt {xs : List Ast} {k j : Nat} (hk : k < 64) : ∀ p ∈ prJ xs k j, p.1 < 64 := by
  intro p hp
  unfold prJ at hp
  rcases List.mem_append.1 hp with h | h
  · have := (prK_mem.1 h).1; omega
  · obtain ⟨c, -, rfl⟩ := List.mem_map.1 h; exact hk
/-- the set of what is exposed, out of the cells reached -/
def exN (P : List (Nat × Int)) (ks : List Int) : Nat := ks.foldl (fun s c => s ||| fP P c) 0
theorem exN_snoc {P : List (Nat × Int)} {ks : List Int} {k : Nat} (h : k < ks.length) : exN P (ks.take (k + 1)) = exN P (ks.take k) ||| fP P ks[k] := by
  unfold exN; rw [List.take_succ_eq_append_getElem h, List.foldl_append]; rfl
theorem exN_bit_go (P : List (Nat × Int)) (ks : List Int) (i s : Nat) : (ks.foldl (fun s c => s ||| fP P c) s).testBit i = (s.testBit i || ks.any (fun c => (fP P c).testBit i)) := by
  induction ks generalizing s with
  | nil => simp
  | cons c ks ih => rw [List.foldl_cons, ih, Nat.testBit_or, List.any_cons, Bool.or_assoc]
theorem exN_bit (P : List (Nat × Int)) (ks : List Int) (i : Nat) : (exN P ks).testBit i = ks.any (fun c => (fP P c).testBit i) := by unfold exN; rw [exN_bit_go]; simp
theorem exN_lt_go (P : List (Nat × Int)) (h : ∀ p ∈ P, p.1 < 64) (ks : List Int) (s : Nat) (hs : s < 2 ^ 64) : ks.foldl (fun s c => s ||| fP P c) s < 2 ^ 64 := by
  induction ks generalizing s with
  | nil => exact hs
  | cons c ks ih =>
    rw [List.foldl_cons]
    exact ih _ (Nat.or_lt_two_pow hs (by have := fP_lt c h; simpa using this))
theorem exN_lt {P : List (Nat × Int)} (h : ∀ p ∈ P, p.1 < 64) (ks : List Int) : exN P ks < 18446744073709551616 := by
  have := exN_lt_go P h ks 0 (by decide)
  unfold exN
  simpa using this
theorem exN_hit (xs : List Ast) (ks : List Int) (i : Nat) : (exN (prK xs xs.length) ks).testBit i = hitAt xs ks i := by
  rw [exN_bit, Bool.eq_iff_iff, List.any_eq_true]
  constructor
  · rintro ⟨c, h1, h2⟩
    rw [fP_bit, List.any_eq_true] at h2
    obtain ⟨p, h3, h4⟩ := h2
    rw [Bool.and_eq_true, decide_eq_true_eq, decide_eq_true_eq] at h4
    obtain ⟨h5, h6⟩ := prK_mem.1 h3
    rw [h4.2] at h5 h6
    rw [hitAt_in h5]
    rw [ceAt_in h5, h4.1] at h6
    exact List.any_eq_true.2 ⟨c, h6, List.any_eq_true.2 ⟨c, h1, beq_self_eq_true _⟩⟩
  · intro h
    by_cases hi : i < xs.length
    · rw [hitAt_in hi] at h
      obtain ⟨c, h1, h2⟩ := List.any_eq_true.1 h
      obtain ⟨y, h3, h4⟩ := List.any_eq_true.1 h2
      have e := beq_iff_eq.1 h4
      subst e
      refine ⟨y, h3, ?_⟩
      rw [fP_bit, List.any_eq_true]
      exact ⟨(i, y), prK_mem.2 ⟨hi, by rw [ceAt_in hi]; exact h1⟩, by simp⟩
    · unfold hitAt at h
      rw [List.getElem?_eq_none (by omega)] at h; cases h
theorem ex_word (xs : List Ast) (ks : List Int) (h : xs.length ≤ 64) : Gw.stF (exN (prK xs xs.length) ks).testBit 64 = exL xs ks := by
  unfold exL
  rw [Gw.stF_congr (q := hitAt xs ks) (fun k _ => exN_hit xs ks k)]
  refine Gw.stF_none h (fun i h1 _ => ?_)
  unfold hitAt
  rw [List.getElem?_eq_none (by omega)]
/-- what stands fast where all is as asked -/
structure ExOk (zs : List Int) (xs : List Ast) (ks : List Int) : Prop where
  n64 : zs.length ≤ 64
  k64 : ks.length ≤ 64
  x12 : xs.length ≤ 12
  ks : ∀ y ∈ ks, 0 ≤ y ∧ y < 64
  ce : ∀ x ∈ xs, x.ce.length ≤ 64 ∧ (∀ y ∈ x.ce, 0 ≤ y ∧ y < 64) ∧ 0 ≤ x.wo ∧ x.wo ≤ 1000000
theorem ex_0 {r c s : Int} {zs ks : List Int} {xs : List Ast} (h : exC r c s zs xs ks = 0) : Gw.ok r c s zs = true ∧ okL zs.length xs = true ∧ Rl.ri 0 (zs.length - 1) ks = true ∧ ExOk zs xs ks := by
  obtain ⟨h1, -, h3⟩ := od0 h
  unfold vl at h1
  rw [Bool.and_eq_true] at h1
  have hn := ((Gw.ok_iff _ _ _ _).1 h1.1).len
  have h3' := h3
  unfold Rl.ri at h3'
  rw [Bool.and_eq_true, List.all_eq_true] at h3'
  have hks : ∀ y ∈ ks, 0 ≤ y ∧ y < zs.length := fun y hy => by have := Gw.inB_iff.1 (h3'.1 y hy); omega
  refine ⟨h1.1, h1.2, h3, hn, ?_, (okL_of h1.2).1, fun y hy => by have := hks y hy; omega, fun x hx => ?_⟩
  · exact Nat.le_trans (up_le (n := zs.length) ks none 0 h3'.2 (fun y hy => by have := hks y hy; omega)) hn
  · have hx1 := (okL_of h1.2).2 x hx
    obtain ⟨-, -, g3, -, g5, g6⟩ := ok1_of hx1
    exact ⟨Nat.le_trans (ok1_ce hx1) hn, fun y hy => by have := g3 y hy; omega, g5, g6⟩
end Ex
end Go.Proofs.YtaldmdammipfjaaDoor

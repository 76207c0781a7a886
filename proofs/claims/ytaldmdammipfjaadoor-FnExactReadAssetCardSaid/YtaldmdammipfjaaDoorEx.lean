/-
  Plain mathematics of chapter 15: assets, which of them are valid, exposed, buried. No Go in sight.
-/
import Derived.Test.YtaldmdammipfjaaDoorAst
import Derived.Test.YtaldmdammipfjaaDoorName
import Derived.Test.YtaldmdammipfjaaDoorRlA
import Derived.Test.YtaldmdammipfjaaDoorStf
import Derived.Test.YtaldmdammipfjaaDoorGw
namespace Go.Proofs.YtaldmdammipfjaaDoor
namespace Ex
set_option linter.unusedVariables false
/-! ### the order of names -/
theorem bl_total : ∀ a b : List UInt8, (Op.bytesLess a b || a == b) = !Op.bytesLess b a
  | [], [] => by simp [Op.bytesLess]
  | [], b :: y => by simp [Op.bytesLess]
  | a :: x, [] => by simp [Op.bytesLess]
  | a :: x, b :: y => by
    have ih := bl_total x y
    unfold Op.bytesLess
    rcases Nat.lt_trichotomy a.toNat b.toNat with h | h | h
    · have h1 : a < b := h
      have h2 : ¬ b < a := fun h' => by have : b.toNat < a.toNat := h'; omega
      have h3 : (b == a) = false := by rw [beq_eq_false_iff_ne]; rintro rfl; omega
      simp [h1, h2, h3]
    · have h1 : a = b := UInt8.toNat_inj.1 h
      subst h1
      have h2 : ¬ a < a := fun h' => by have : a.toNat < a.toNat := h'; omega
      have h3 : (a :: x == a :: y) = (x == y) := by rw [Bool.eq_iff_iff]; simp
      rw [h3]
      simpa [h2] using ih
    · have h1 : ¬ a < b := fun h' => by have : a.toNat < b.toNat := h'; omega
      have h2 : b < a := h
      have h3 : (a == b) = false := by rw [beq_eq_false_iff_ne]; rintro rfl; omega
      have h4 : (a :: x == b :: y) = false := by rw [beq_eq_false_iff_ne]; intro e; injection e with e _; subst e; omega
      simp [h1, h2, h3, h4]
/-- does a name come behind the one before it? -/
def be : Option (List UInt8) → List UInt8 → Bool
  | none, _ => true
  | some p, k => Op.bytesLess p k
/-- names strictly increasing -/
def up : Option (List UInt8) → List Ast → Bool
  | _, [] => true
  | p, x :: xs => be p x.id && up (some x.id) xs
/-- the last name -/
def la : Option (List UInt8) → List Ast → Option (List UInt8)
  | p, [] => p
  | _, x :: xs => la (some x.id) xs
theorem la_app (p : Option (List UInt8)) (xs : List Ast) (x : Ast) : la p (xs ++ [x]) = some x.id := by
  induction xs generalizing p with
  | nil => rfl
  | cons y ys ih => exact ih _
theorem up_app (p : Option (List UInt8)) (xs : List Ast) (x : Ast) : up p (xs ++ [x]) = (up p xs && be (la p xs) x.id) := by
  induction xs generalizing p with
  | nil => simp [up, la]
  | cons y ys ih => rw [List.cons_append, up, up, la, ih, Bool.and_assoc]
theorem la_take (p : Option (List UInt8)) {xs : List Ast} {k : Nat} (h : k < xs.length) : la p (xs.take (k + 1)) = some xs[k].id := by
  rw [List.take_succ_eq_append_getElem h, la_app]
theorem up_snoc {p : Option (List UInt8)} {xs : List Ast} {k : Nat} (h : k < xs.length) : up p (xs.take (k + 1)) = (up p (xs.take k) && be (la p (xs.take k)) xs[k].id) := by
  rw [List.take_succ_eq_append_getElem h, up_app]
theorem up_pre (p : Option (List UInt8)) (xs ys : List Ast) (h : up p (xs ++ ys) = true) : up p xs = true := by
  induction xs generalizing p with
  | nil => rfl
  | cons x xs ih =>
    rw [List.cons_append, up, Bool.and_eq_true] at h
    rw [up, h.1, ih _ h.2]; rfl
theorem up_no {xs : List Ast} {k : Nat} (h : up none (xs.take k) = false) : up none xs = false := by
  rw [Bool.eq_false_iff]; intro hc
  have := up_pre none (xs.take k) (xs.drop k) (by rw [List.take_append_drop]; exact hc)
  rw [h] at this; cases this
/-! ### valid assets -/
def ok1 (n : Int) (x : Ast) : Bool := nm x.id && (decide (0 < x.ce.length) && (Rl.ri 0 (n - 1) x.ce && Ar.inB 0 x.wo 1000000))
def okL (n : Int) (xs : List Ast) : Bool := xs.all (ok1 n) && up none xs && decide (xs.length ≤ 12)
/-- a grid and assets -/
def vl (r c s : Int) (zs : List Int) (xs : List Ast) : Bool := Gw.ok r c s zs && okL zs.length xs
theorem nt {b : Bool} (h : ¬ b = true) : b = false := by simpa using h
section
variable {n : Int} {x : Ast}
theorem ok1_0 (h : nm x.id = false) : ok1 n x = false := by unfold ok1; rw [h]; rfl
theorem ok1_1 (h : ¬ 0 < x.ce.length) : ok1 n x = false := by unfold ok1; rw [decide_eq_false h]; simp
theorem ok1_2 (h : Rl.ri 0 (n - 1) x.ce = false) : ok1 n x = false := by unfold ok1; rw [h]; simp
theorem ok1_3 (h : Ar.inB 0 x.wo 1000000 = false) : ok1 n x = false := by unfold ok1; rw [h]; simp
theorem ok1_l (h0 : nm x.id = true) (h1 : 0 < x.ce.length) (h2 : Rl.ri 0 (n - 1) x.ce = true) : ok1 n x = Ar.inB 0 x.wo 1000000 := by unfold ok1; rw [h0, h2, decide_eq_true h1]; simp
theorem ok1_of (h : ok1 n x = true) : nm x.id = true ∧ 0 < x.ce.length ∧ (∀ c ∈ x.ce, 0 ≤ c ∧ c < n) ∧ Rl.up none x.ce = true ∧ 0 ≤ x.wo ∧ x.wo ≤ 1000000 := by
  unfold ok1 Rl.ri at h
  simp only [Bool.and_eq_true, List.all_eq_true, decide_eq_true_eq] at h
  obtain ⟨h0, h1, ⟨h2, h3⟩, h4⟩ := h
  have h4' := Gw.inB_iff.1 h4
  exact ⟨h0, h1, fun c hc => by have := Gw.inB_iff.1 (h2 c hc); omega, h3, h4'.1, h4'.2⟩
end
section
variable {n : Int} {xs : List Ast}
theorem all_snoc {k : Nat} (h : k < xs.length) (hp : (xs.take k).all (ok1 n) = true) (hq : ok1 n xs[k] = true) : (xs.take (k + 1)).all (ok1 n) = true := by
  rw [List.take_succ_eq_append_getElem h, List.all_append, hp]; simp [hq]
theorem okL_bad {k : Nat} (h : k < xs.length) (hq : ok1 n xs[k] = false) : okL n xs = false := by
  have : xs.all (ok1 n) = false := by
    rw [Bool.eq_false_iff]; intro hc
    have := List.all_eq_true.1 hc _ (List.getElem_mem h)
    rw [hq] at this; cases this
  unfold okL; rw [this]; rfl
theorem okL_up {k : Nat} (h : up none (xs.take k) = false) : okL n xs = false := by unfold okL; rw [up_no h]; simp
theorem okL_in (h1 : xs.all (ok1 n) = true) (h2 : up none xs = true) : okL n xs = decide (xs.length ≤ 12) := by unfold okL; rw [h1, h2]; rfl
theorem okL_not (h1 : xs.all (ok1 n) = false) : okL n xs = false := by unfold okL; rw [h1]; rfl
theorem okL_long (h1 : ¬ xs.length ≤ 12) : okL n xs = false := by unfold okL; rw [decide_eq_false h1]; simp
theorem okL_eq (h1 : xs.all (ok1 n) = true) (h2 : xs.length ≤ 12) : okL n xs = up none xs := by unfold okL; rw [h1, decide_eq_true h2]; simp
theorem okL_of (h : okL n xs = true) : xs.length ≤ 12 ∧ ∀ x ∈ xs, ok1 n x = true := by
  unfold okL at h
  rw [Bool.and_eq_true, Bool.and_eq_true, decide_eq_true_eq, List.all_eq_true] at h
  exact ⟨h.2, h.1.1⟩
theorem not_any (xs : List Ast) : (xs.any fun x => !ok1 n x) = !xs.all (ok1 n) := by
  induction xs with
  | nil => rfl
  | cons x xs ih => rw [List.any_cons, List.all_cons, ih]; cases ok1 n x <;> simp
end
theorem up_step {xs : List Ast} {m : Nat} (h : m + 1 < xs.length) (hu : up none (xs.take (m + 1)) = true) (hb : Op.bytesLess (xs[m]'(by omega)).id xs[m + 1].id = true) : up none (xs.take (m + 1 + 1)) = true := by
  rw [up_snoc h, hu, la_take none (show m < xs.length by omega)]; exact hb
theorem up_turn {xs : List Ast} {m : Nat} (h : m + 1 < xs.length) (hb : Op.bytesLess (xs[m]'(by omega)).id xs[m + 1].id = false) : up none (xs.take (m + 1 + 1)) = false := by
  rw [up_snoc h, la_take none (show m < xs.length by omega)]
  show (_ && Op.bytesLess _ _) = false
  rw [hb, Bool.and_false]
theorem up_one {xs : List Ast} (h : 0 < xs.length) : up none (xs.take (0 + 1)) = true := by rw [up_snoc h]; rfl
/-! ### what is exposed -/
def hit (ks : List Int) (x : Ast) : Bool := x.ce.any (fun c => ks.any (fun y => y == c))
def hitAt (xs : List Ast) (ks : List Int) (i : Nat) : Bool := match xs[i]? with | some x => hit ks x | none => false
/-- the indices of the assets with a cell among those -/
def exL (xs : List Ast) (ks : List Int) : List Int := Gw.stF (hitAt xs ks) xs.length
theorem hitAt_in {xs : List Ast} {ks : List Int} {i : Nat} (h : i < xs.length) : hitAt xs ks i = hit ks xs[i] := by unfold hitAt; rw [List.getElem?_eq_getElem h]
def woAt (xs : List Ast) (i : Int) : Int := match xs[i.toNat]? with | some x => x.wo | none => 0
/-- their worth -/
def woS (xs : List Ast) (l : List Int) : Int := (l.map (woAt xs)).sum
theorem woS_snoc (xs : List Ast) (l : List Int) {k : Nat} (h : k < l.length) : woS xs (l.take (k + 1)) = woS xs (l.take k) + woAt xs l[k] := by
  unfold woS; rw [List.take_succ_eq_append_getElem h, List.map_append, List.sum_append_int]; simp
theorem woAt_in {xs : List Ast} {i : Nat} (h : i < xs.length) : woAt xs i = xs[i].wo := by unfold woAt; rw [Int.toNat_natCast, List.getElem?_eq_getElem h]
theorem exL_len (xs : List Ast) (ks : List Int) : (exL xs ks).length ≤ xs.length := Gw.stF_len _ _
theorem exL_mem {xs : List Ast} {ks : List Int} {i : Int} (h : i ∈ exL xs ks) : ∃ k : Nat, i = (k : Int) ∧ k < xs.length := by
  obtain ⟨k, h1, -, h3⟩ := Gw.stF_mem.1 h; exact ⟨k, h3, h1⟩
def exC (r c s : Int) (zs : List Int) (xs : List Ast) (ks : List Int) : Int := odC (vl r c s zs xs) true (Rl.ri 0 (zs.length - 1) ks)
def exA (r c s : Int) (zs : List Int) (xs : List Ast) (ks : List Int) : List Int := if exC r c s zs xs ks = 0 then exL xs ks else []
def exV (r c s : Int) (zs : List Int) (xs : List Ast) (ks : List Int) : Int := if exC r c s zs xs ks = 0 then woS xs (exL xs ks) else 0
theorem exA_no {r c s : Int} {zs ks : List Int} {xs : List Ast} (h : exC r c s zs xs ks ≠ 0) : exA r c s zs xs ks = [] := by unfold exA; rw [if_neg h]
theorem exA_yes {r c s : Int} {zs ks : List Int} {xs : List Ast} (h : exC r c s zs xs ks = 0) : exA r c s zs xs ks = exL xs ks := by unfold exA; rw [if_pos h]
theorem exV_no {r c s : Int} {zs ks : List Int} {xs : List Ast} (h : exC r c s zs xs ks ≠ 0) : exV r c s zs xs ks = 0 := by unfold exV; rw [if_neg h]
theorem exV_yes {r c s : Int} {zs ks : List Int} {xs : List Ast} (h : exC r c s zs xs ks = 0) : exV r c s zs xs ks = woS xs (exL xs ks) := by unfold exV; rw [if_pos h]
theorem exA_len {r c s : Int} {zs ks : List Int} {xs : List Ast} (h : xs.length ≤ 1048576) : (exA r c s zs xs ks).length ≤ 1048576 := by
  unfold exA; split
  · exact Nat.le_trans (exL_len _ _) h
  · simp
theorem exV_w (r c s : Int) (zs ks : List Int) (xs : List Ast) : exV r c s zs xs ks = woS xs (exA r c s zs xs ks) := by
  unfold exV exA; split <;> rfl
/-- the assets of a cell -/
def inAt (xs : List Ast) (c : Int) (i : Nat) : Bool := match xs[i]? with | some x => x.ce.any (fun y => y == c) | none => false
/-! ### what is buried -/
def msAt (ms : List Int) (c : Int) : Int := ms.getD c.toNat 0
def bu1 (ms : List Int) (x : Ast) : Int := (x.ce.map (msAt ms)).sum
def buC (v o : Bool) : Int := odC v true o
end Ex
end Go.Proofs.YtaldmdammipfjaaDoor

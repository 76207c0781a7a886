/-
  How many bits a word has, as math/bits counts them. No condition of its own.
-/
import Derived.Test.YtaldmdammipfjaaDoorRlC
import Derived.Laws.Bits64b
namespace Go.Proofs.YtaldmdammipfjaaDoor
open Go.RowKit Go.Shelf
set_option linter.unusedVariables false
set_option maxRecDepth 100000
namespace Rl
/-- and over bytes: a low byte and the rest -/
theorem and_byte (a b c d : Nat) (ha : a < 256) (hc : c < 256) : (a + 256 * b) &&& (c + 256 * d) = (a &&& c) + 256 * (b &&& d) := by
  apply Nat.eq_of_testBit_eq
  intro j
  have h1 : ∀ x y : Nat, x < 256 → (x + 256 * y).testBit j = if j < 8 then x.testBit j else y.testBit (j - 8) := by
    intro x y hx
    have := Nat.testBit_two_pow_mul_add y (i := 8) (b := x) (by simpa using hx) j
    rw [Nat.add_comm]
    simpa using this
  have hac : a &&& c < 256 := by have := Nat.and_le_left (n := a) (m := c); omega
  rw [Nat.testBit_and, h1 a b ha, h1 c d hc, h1 _ _ hac]
  split <;> simp [Nat.testBit_and]
def vl : List Nat → Nat
  | [] => 0
  | y :: ys => y + 256 * vl ys
def rp (c : Nat) : Nat → Nat
  | 0 => 0
  | n + 1 => c + 256 * rp c n
def f1 (y : Nat) : Nat := (y / 2 &&& 85) + (y &&& 85)
def f2 (y : Nat) : Nat := (y / 4 &&& 51) + (y &&& 51)
def f3 (y : Nat) : Nat := (y / 16 + y) &&& 15
theorem a1 : ∀ (u : Fin 128) (t : Fin 2), (u.val + 128 * t.val) &&& 85 = u.val &&& 85 := by decide +kernel
theorem a2 : ∀ (u : Fin 64) (t : Fin 4), (u.val + 64 * t.val) &&& 51 = u.val &&& 51 := by decide +kernel
theorem a3 : ∀ (u : Fin 256) (t : Fin 16), (u.val / 16 + u.val + 16 * t.val) &&& 15 = (u.val / 16 + u.val) &&& 15 := by decide +kernel
theorem b1 : ∀ (u : Fin 256), f1 u.val ≤ 170 := by decide +kernel
theorem b2 : ∀ (u : Fin 256), f2 (f1 u.val) ≤ 68 ∧ f2 (f1 u.val) % 16 ≤ 4 := by decide +kernel
theorem b3 : ∀ (u : Fin 256), f3 (f2 (f1 u.val)) ≤ 8 ∧ f3 (f2 (f1 u.val)) = (List.range 8).countP (fun i => u.val.testBit i) := by decide +kernel
theorem s1 (ys : List Nat) (h : ∀ y ∈ ys, y < 256) : (vl ys / 2 &&& rp 85 ys.length) + (vl ys &&& rp 85 ys.length) = vl (ys.map f1) := by
  induction ys with
  | nil => rfl
  | cons y ys ih =>
    have hy := h y (List.mem_cons_self ..)
    have ih' := ih (fun z hz => h z (List.mem_cons_of_mem _ hz))
    simp only [vl, List.length_cons, rp, List.map_cons]
    have e : (y + 256 * vl ys) / 2 = (y / 2 + 128 * (vl ys % 2)) + 256 * (vl ys / 2) := by omega
    rw [e, and_byte _ _ _ _ (by omega) (by decide), and_byte _ _ _ _ hy (by decide)]
    have := a1 ⟨y / 2, by omega⟩ ⟨vl ys % 2, by omega⟩
    simp only at this
    rw [this, ← ih']
    unfold f1
    omega
theorem s2 (ys : List Nat) (h : ∀ y ∈ ys, y < 256) : (vl ys / 4 &&& rp 51 ys.length) + (vl ys &&& rp 51 ys.length) = vl (ys.map f2) := by
  induction ys with
  | nil => rfl
  | cons y ys ih =>
    have hy := h y (List.mem_cons_self ..)
    have ih' := ih (fun z hz => h z (List.mem_cons_of_mem _ hz))
    simp only [vl, List.length_cons, rp, List.map_cons]
    have e : (y + 256 * vl ys) / 4 = (y / 4 + 64 * (vl ys % 4)) + 256 * (vl ys / 4) := by omega
    rw [e, and_byte _ _ _ _ (by omega) (by decide), and_byte _ _ _ _ hy (by decide)]
    have := a2 ⟨y / 4, by omega⟩ ⟨vl ys % 4, by omega⟩
    simp only at this
    rw [this, ← ih']
    unfold f2
    omega
theorem vl_mod (ys : List Nat) (h : ∀ y ∈ ys, y < 256 ∧ y % 16 ≤ 4) : vl ys % 16 ≤ 4 := by
  cases ys with
  | nil => decide
  | cons y ys => have := h y (List.mem_cons_self ..); simp only [vl]; omega
theorem s3 (ys : List Nat) (h : ∀ y ∈ ys, y ≤ 68 ∧ y % 16 ≤ 4) : ((vl ys / 16 + vl ys) &&& rp 15 ys.length) = vl (ys.map f3) := by
  induction ys with
  | nil => rfl
  | cons y ys ih =>
    have hy := h y (List.mem_cons_self ..)
    have ih' := ih (fun z hz => h z (List.mem_cons_of_mem _ hz))
    have hm := vl_mod ys (fun z hz => by have := h z (List.mem_cons_of_mem _ hz); omega)
    simp only [vl, List.length_cons, rp, List.map_cons]
    have e : (y + 256 * vl ys) / 16 + (y + 256 * vl ys) = (y / 16 + y + 16 * (vl ys % 16)) + 256 * (vl ys / 16 + vl ys) := by omega
    rw [e, and_byte _ _ _ _ (by omega) (by decide)]
    have := a3 ⟨y, by omega⟩ ⟨vl ys % 16, by omega⟩
    simp only at this
    rw [this, ih']
    rfl
/-- the eight bytes of a word -/
def by8 (x : Nat) : List Nat := [x % 256, x / 256 % 256, x / 65536 % 256, x / 16777216 % 256, x / 4294967296 % 256, x / 1099511627776 % 256, x / 281474976710656 % 256, x / 72057594037927936 % 256]
theorem by8_vl (x : Nat) (h : x < 18446744073709551616) : vl (by8 x) = x := by simp only [by8, vl]; omega
theorem rp85 : rp 85 8 = 6148914691236517205 := by decide
theorem rp51 : rp 51 8 = 3689348814741910323 := by decide
theorem rp15 : rp 15 8 = 1085102592571150095 := by decide
def sm : List Nat → Nat
  | [] => 0
  | y :: ys => y + sm ys
theorem fin8 (p0 p1 p2 p3 p4 p5 p6 p7 : Nat) (h0 : p0 ≤ 8) (h1 : p1 ≤ 8) (h2 : p2 ≤ 8) (h3 : p3 ≤ 8) (h4 : p4 ≤ 8) (h5 : p5 ≤ 8) (h6 : p6 ≤ 8) (h7 : p7 ≤ 8) (x a b c : Nat)
    (hx : x = vl [p0, p1, p2, p3, p4, p5, p6, p7]) (ha : a = x + x / 256) (hb : b = a + a / 65536) (hc : c = b + b / 4294967296) : c % 128 = p0 + p1 + p2 + p3 + p4 + p5 + p6 + p7 := by
  simp only [vl] at hx
  have e1 : x / 256 = p1 + 256 * (p2 + 256 * (p3 + 256 * (p4 + 256 * (p5 + 256 * (p6 + 256 * p7))))) := by omega
  rw [e1] at ha
  have e2 : a = (p0 + p1) + 256 * ((p1 + p2) + 256 * ((p2 + p3) + 256 * ((p3 + p4) + 256 * ((p4 + p5) + 256 * ((p5 + p6) + 256 * ((p6 + p7) + 256 * p7)))))) := by omega
  clear ha hx e1
  have e3 : a / 65536 = (p2 + p3) + 256 * ((p3 + p4) + 256 * ((p4 + p5) + 256 * ((p5 + p6) + 256 * ((p6 + p7) + 256 * p7)))) := by omega
  rw [e3] at hb
  have e4 : b = (p0 + p1 + p2 + p3) + 256 * ((p1 + p2 + p3 + p4) + 256 * ((p2 + p3 + p4 + p5) + 256 * ((p3 + p4 + p5 + p6) + 256 * ((p4 + p5 + p6 + p7) + 256 * ((p5 + p6 + p7) + 256 * ((p6 + p7) + 256 * p7)))))) := by omega
  clear hb e2 e3
  have e5 : b / 4294967296 = (p4 + p5 + p6 + p7) + 256 * ((p5 + p6 + p7) + 256 * ((p6 + p7) + 256 * p7)) := by omega
  rw [e5] at hc
  have e6 : c = (p0 + p1 + p2 + p3 + p4 + p5 + p6 + p7) + 256 * ((p1 + p2 + p3 + p4 + p5 + p6 + p7) + 256 * ((p2 + p3 + p4 + p5 + p6 + p7) + 256 * ((p3 + p4 + p5 + p6 + p7) + 256 * ((p4 + p5 + p6 + p7) + 256 * ((p5 + p6 + p7) + 256 * ((p6 + p7) + 256 * p7)))))) := by omega
  clear hc e4 e5
  omega
/-- how many bits a word has, as math/bits counts them -/
theorem pop64 (x x1 x2 x3 a b c : Nat) (h : x < 18446744073709551616) (h1 : x1 = (x / 2 &&& 6148914691236517205) + (x &&& 6148914691236517205)) (h2 : x2 = (x1 / 4 &&& 3689348814741910323) + (x1 &&& 3689348814741910323)) (h3 : x3 = (x2 / 16 + x2) &&& 1085102592571150095)
    (ha : a = x3 + x3 / 256) (hb : b = a + a / 65536) (hc : c = b + b / 4294967296) : c % 128 = sm ((by8 x).map (fun y => (List.range 8).countP (fun i => y.testBit i))) := by
  have hb8 : ∀ y ∈ by8 x, y < 256 := by
    intro y hy
    simp only [by8, List.mem_cons, List.not_mem_nil, or_false] at hy
    omega
  have hl : (by8 x).length = 8 := rfl
  have e1 : x1 = vl ((by8 x).map f1) := by
    have := s1 (by8 x) hb8
    rw [hl, rp85, by8_vl x h] at this
    rw [h1, this]
  have e2 : x2 = vl (((by8 x).map f1).map f2) := by
    have := s2 ((by8 x).map f1) (fun y hy => by
      obtain ⟨z, hz, rfl⟩ := List.mem_map.1 hy
      have := b1 ⟨z, hb8 z hz⟩
      simp only at this; omega)
    rw [List.length_map, hl, rp51, ← e1] at this
    rw [h2, this]
  have e3 : x3 = vl ((((by8 x).map f1).map f2).map f3) := by
    have := s3 (((by8 x).map f1).map f2) (fun y hy => by
      rw [List.map_map] at hy
      obtain ⟨z, hz, rfl⟩ := List.mem_map.1 hy
      exact b2 ⟨z, hb8 z hz⟩)
    rw [List.length_map, List.length_map, hl, rp15, ← e2] at this
    rw [h3, this]
  have key : ∀ y, y < 256 → f3 (f2 (f1 y)) ≤ 8 ∧ f3 (f2 (f1 y)) = (List.range 8).countP (fun i => y.testBit i) := fun y hy => b3 ⟨y, hy⟩
  have k0 := key (x % 256) (by omega); have k1 := key (x / 256 % 256) (by omega); have k2 := key (x / 65536 % 256) (by omega); have k3 := key (x / 16777216 % 256) (by omega)
  have k4 := key (x / 4294967296 % 256) (by omega); have k5 := key (x / 1099511627776 % 256) (by omega); have k6 := key (x / 281474976710656 % 256) (by omega); have k7 := key (x / 72057594037927936 % 256) (by omega)
  have hf := fin8 _ _ _ _ _ _ _ _ k0.1 k1.1 k2.1 k3.1 k4.1 k5.1 k6.1 k7.1 x3 a b c e3 ha hb hc
  rw [hf, k0.2, k1.2, k2.2, k3.2, k4.2, k5.2, k6.2, k7.2]
  simp only [by8, List.map_cons, List.map_nil, sm]
  omega
theorem bits_by8 (x : Nat) : sm ((by8 x).map (fun y => (List.range 8).countP (fun i => y.testBit i))) = (List.range 64).countP (fun i => x.testBit i) := by
  have hr : List.range 64 = List.range 8 ++ (List.range 8).map (8 + ·) ++ (List.range 8).map (16 + ·) ++ (List.range 8).map (24 + ·) ++ (List.range 8).map (32 + ·) ++ (List.range 8).map (40 + ·) ++ (List.range 8).map (48 + ·) ++ (List.range 8).map (56 + ·) := by decide
  have hs : ∀ (k d : Nat), d = 2 ^ k → (List.range 8).countP (fun i => (x / d % 256).testBit i) = ((List.range 8).map (k + ·)).countP (fun i => x.testBit i) := by
    intro k d hd
    rw [List.countP_map]
    apply List.countP_congr
    intro i hi
    have hi8 := List.mem_range.1 hi
    have : (x / d % 256).testBit i = x.testBit (k + i) := by
      rw [show (256 : Nat) = 2 ^ 8 by decide, Nat.testBit_mod_two_pow, hd, Nat.testBit_div_two_pow]
      simp [hi8, Nat.add_comm]
    simp [this]
  have h0 : (List.range 8).countP (fun i => (x % 256).testBit i) = (List.range 8).countP (fun i => x.testBit i) := by
    have := hs 0 1 (by decide)
    simpa using this
  rw [hr]
  simp only [List.countP_append, by8, List.map_cons, List.map_nil, sm]
  rw [h0, hs 8 256 (by decide), hs 16 65536 (by decide), hs 24 16777216 (by decide), hs 32 4294967296 (by decide), hs 40 1099511627776 (by decide), hs 48 281474976710656 (by decide), hs 56 72057594037927936 (by decide)]
  omega
end Rl

namespace Rl
theorem up_gt {x : Int} {xs : List Int} (h : up (some x) xs = true) : ∀ y ∈ xs, x < y := by
  induction xs generalizing x with
  | nil => intro y hy; cases hy
  | cons z zs ih =>
    rw [up, Bool.and_eq_true] at h
    have h1 : x < z := of_decide_eq_true h.1
    intro y hy
    rcases List.mem_cons.1 hy with rfl | hy
    · exact h1
    · exact Int.lt_trans h1 (ih h.2 y hy)
theorem count_one (p : Nat → Bool) (i n : Nat) (hi : i < n) (hp : p i = false) : (List.range n).countP (fun j => decide (i = j) || p j) = (List.range n).countP p + 1 := by
  have ge : ∀ m, m ≤ i → (List.range m).countP (fun j => decide (i = j) || p j) = (List.range m).countP p := fun m hm => by
    apply List.countP_congr
    intro j hj
    have := List.mem_range.1 hj
    rw [decide_eq_false (show ¬ i = j by omega), Bool.false_or]
  have key : ∀ d, (List.range (i + 1 + d)).countP (fun j => decide (i = j) || p j) = (List.range (i + 1 + d)).countP p + 1 := fun d => by
    induction d with
    | zero =>
      rw [Nat.add_zero, List.range_succ, List.countP_append, List.countP_append, ge i (Nat.le_refl _)]
      simp [hp]
    | succ d ih =>
      rw [← Nat.add_assoc, List.range_succ, List.countP_append, List.countP_append, ih]
      have : ([i + 1 + d].countP fun j => decide (i = j) || p j) = [i + 1 + d].countP p := by
        simp only [List.countP_cons, List.countP_nil]
        rw [decide_eq_false (show ¬ i = i + 1 + d by omega), Bool.false_or]
      rw [this]; omega
  have := key (n - (i + 1))
  rwa [show i + 1 + (n - (i + 1)) = n by omega] at this
theorem count_set (q : Option Int) (xs : List Int) (hu : up q xs = true) (hx : ∀ x ∈ xs, 0 ≤ x ∧ x < 64) : (List.range 64).countP (fun i => xs.any (fun x => decide (x.toNat = i))) = xs.length := by
  induction xs generalizing q with
  | nil => simp
  | cons x xs ih =>
    rw [up, Bool.and_eq_true] at hu
    have hg := up_gt hu.2
    have h0 := hx x (List.mem_cons_self ..)
    have e := count_one (fun i => xs.any (fun x => decide (x.toNat = i))) x.toNat 64 (by omega) (by
      rw [List.any_eq_false]
      intro y hy
      have := hg y hy
      simp; omega)
    simp only [List.any_cons]
    rw [e, ih (some x) hu.2 (fun y hy => hx y (List.mem_cons_of_mem _ hy))]
    simp
theorem count_sN (xs : List Int) (hu : up none xs = true) (hx : ∀ x ∈ xs, 0 ≤ x ∧ x < 64) : (List.range 64).countP (fun i => (sN xs).testBit i) = xs.length := by
  rw [← count_set none xs hu hx]
  apply List.countP_congr
  intro i _
  rw [sN_bit]
end Rl
namespace Rl
theorem uw (n : Nat) (h : n < 18446744073709551616) : IntKind.u64.wrap (n : Int) = (n : Int) := by rw [IntKind.wrap_u64]; omega
theorem ub (a b : Nat) (ha : a < 18446744073709551616) (hb : b < 18446744073709551616) (z : Int) (hz : z = (a : Int)) (y : Int) (hy : y = (b : Int)) : bits .and .u64 z y = ((a &&& b : Nat) : Int) := by rw [hz, hy]; exact bits_and_u64_nat a b ha hb
end Rl
set_option maxHeartbeats 1600000 in
theorem ones64_any (x : Nat) (w : World) (h : x < 18446744073709551616) : Calls Tryd.prog 116 #[.int .u64 (x : Int)] w fun e w' => e = .returned (.int .i64 ((List.range 64).countP (fun i => x.testBit i) : Int)) ∧ w = w' := by
  obtain ⟨x1, h1⟩ : ∃ x1, x1 = (x / 2 &&& 6148914691236517205) + (x &&& 6148914691236517205) := ⟨_, rfl⟩
  obtain ⟨x2, h2⟩ : ∃ x2, x2 = (x1 / 4 &&& 3689348814741910323) + (x1 &&& 3689348814741910323) := ⟨_, rfl⟩
  obtain ⟨x3, h3⟩ : ∃ x3, x3 = (x2 / 16 + x2) &&& 1085102592571150095 := ⟨_, rfl⟩
  obtain ⟨a, ha⟩ : ∃ a, a = x3 + x3 / 256 := ⟨_, rfl⟩
  obtain ⟨b, hb⟩ : ∃ b, b = a + a / 65536 := ⟨_, rfl⟩
  obtain ⟨c, hc⟩ : ∃ c, c = b + b / 4294967296 := ⟨_, rfl⟩
  have key := Rl.pop64 x x1 x2 x3 a b c h h1 h2 h3 ha hb hc
  rw [Rl.bits_by8] at key
  have l1 : x1 ≤ 12297829382473034410 := by
    have := Nat.and_le_right (n := x / 2) (m := 6148914691236517205); have := Nat.and_le_right (n := x) (m := 6148914691236517205); omega
  have l2 : x2 ≤ 7378697629483820646 := by
    have := Nat.and_le_right (n := x1 / 4) (m := 3689348814741910323); have := Nat.and_le_right (n := x1) (m := 3689348814741910323); omega
  have l3 : x3 ≤ 1085102592571150095 := by rw [h3]; exact Nat.and_le_right
  have Q1 : IntKind.u64.wrap (bits .and .u64 ((x : Int) / 2) 6148914691236517205 + bits .and .u64 (x : Int) 6148914691236517205) = (x1 : Int) := by
    have A : bits .and .u64 ((x : Int) / 2) 6148914691236517205 = ((x / 2 &&& 6148914691236517205 : Nat) : Int) := Rl.ub (x / 2) 6148914691236517205 (by omega) (by decide) _ (by omega) _ (by decide)
    have B : bits .and .u64 (x : Int) 6148914691236517205 = ((x &&& 6148914691236517205 : Nat) : Int) := Rl.ub x 6148914691236517205 (by omega) (by decide) _ rfl _ (by decide)
    rw [A, B, ← Int.natCast_add, ← h1]
    exact Rl.uw _ (by omega)
  have Q2 : IntKind.u64.wrap (bits .and .u64 ((x1 : Int) / 4) 3689348814741910323 + bits .and .u64 (x1 : Int) 3689348814741910323) = (x2 : Int) := by
    have A : bits .and .u64 ((x1 : Int) / 4) 3689348814741910323 = ((x1 / 4 &&& 3689348814741910323 : Nat) : Int) := Rl.ub (x1 / 4) 3689348814741910323 (by omega) (by decide) _ (by omega) _ (by decide)
    have B : bits .and .u64 (x1 : Int) 3689348814741910323 = ((x1 &&& 3689348814741910323 : Nat) : Int) := Rl.ub x1 3689348814741910323 (by omega) (by decide) _ rfl _ (by decide)
    rw [A, B, ← Int.natCast_add, ← h2]
    exact Rl.uw _ (by omega)
  have Q3 : bits .and .u64 (IntKind.u64.wrap ((x2 : Int) / 16 + (x2 : Int))) 1085102592571150095 = (x3 : Int) := by
    have e : ((x2 : Int) / 16 + (x2 : Int)) = ((x2 / 16 + x2 : Nat) : Int) := by omega
    have A : bits .and .u64 ((x2 / 16 + x2 : Nat) : Int) 1085102592571150095 = ((x2 / 16 + x2 &&& 1085102592571150095 : Nat) : Int) := Rl.ub (x2 / 16 + x2) 1085102592571150095 (by omega) (by decide) _ rfl _ (by decide)
    rw [e, Rl.uw _ (by omega), A, ← h3]
  have Q4 : IntKind.u64.wrap ((x3 : Int) + (x3 : Int) / 256) = (a : Int) := by
    have e : ((x3 : Int) + (x3 : Int) / 256) = (a : Int) := by omega
    rw [e]; exact Rl.uw _ (by omega)
  have Q5 : IntKind.u64.wrap ((a : Int) + (a : Int) / 65536) = (b : Int) := by
    have e : ((a : Int) + (a : Int) / 65536) = (b : Int) := by omega
    rw [e]; exact Rl.uw _ (by omega)
  have Q6 : IntKind.u64.wrap ((b : Int) + (b : Int) / 4294967296) = (c : Int) := by
    have e : ((b : Int) + (b : Int) / 4294967296) = (c : Int) := by omega
    rw [e]; exact Rl.uw _ (by omega)
  have Q7 : bits .and .i64 (wrap64 (c : Int)) 127 = ((c % 128 : Nat) : Int) := by
    have hcl : (c : Int) < 9223372036854775808 := by omega
    rw [IntWalk.wrap64_in (c : Int) ⟨by omega, by omega⟩]
    have := bits_mask .i64 63 (by decide) (fun n h0 h1 => IntWalk.i64_in n ⟨by omega, by omega⟩) 7 (by decide) (c : Int) (by omega) (by omega)
    rw [show (2 : Int) ^ 7 - 1 = 127 by decide, show (2 : Int) ^ 7 = 128 by decide] at this
    rw [this]; omega
  have KEY := Lib.hid key
  clear h h1 h2 h3 ha hb hc l1 l2 l3 key
  go_enter Tryd.func116, Tryd.ntmps116
  go_wp2
  go_ret
  exact ⟨by rw [← KEY.out]; rfl, rfl⟩
theorem size_any (x : Nat) (w : World) (h : x < 18446744073709551616) : Calls Tryd.prog 84 #[.int .u64 (x : Int)] w fun e w' => e = .returned (.int .i64 ((List.range 64).countP (fun i => x.testBit i) : Int)) ∧ w = w' := by
  have C := Lib.hid (ones64_any x w h)
  generalize (List.range 64).countP (fun i => x.testBit i) = n at *
  clear h
  go_enter Tryd.func84, Tryd.ntmps84
  go_wp2_with fail
  refine C.out.mono ?_
  rintro e w1 ⟨rfl, rfl⟩
  go_wp2_with fail
  go_ret
  exact ⟨rfl, rfl⟩
end Go.Proofs.YtaldmdammipfjaaDoor

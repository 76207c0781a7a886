/-
  Tests that contradict each other: plain mathematics, and what a call leaves that answers rows of rows. No condition of its own.
-/
import Derived.Test.YteileaeeiejonaaDoorTkG
import Derived.Test.YteileaeeiejonaaDoorTkF
import Derived.Test.YteileaeeiejonaaDoorRws
namespace Go.Proofs.YteileaeeiejonaaDoor
open Go.RowKit Go.Shelf
set_option linter.unusedVariables false
set_option maxRecDepth 100000

namespace Tq
/-- do two tests contradict each other? -/
def cb (n : Int) (x y : Tst) : Bool := nr n x.de y.de && decide (2 ≤ Ar.ab (cls y - cls x))
/-- the pairs of test i with those from i + 1 to k -/
def pk (n : Int) (xs : List Tst) (i : Nat) : Nat → List (List Int)
  | 0 => []
  | k + 1 => pk n xs i k ++ (if i < k ∧ cb n (nth xs i) (nth xs k) = true then [[(i : Int), (k : Int)]] else [])
/-- all pairs whose first test is ahead of i -/
def pa (n : Int) (xs : List Tst) : Nat → List (List Int)
  | 0 => []
  | i + 1 => pa n xs i ++ pk n xs i xs.length
theorem pk_start (n : Int) (xs : List Tst) (i : Nat) : ∀ k, k ≤ i + 1 → pk n xs i k = [] := by
  intro k
  induction k with
  | zero => intro _; rfl
  | succ k ih => intro h; rw [pk, ih (by omega), if_neg (by omega)]; rfl
theorem pk_yes {n : Int} {xs : List Tst} {i k : Nat} (hi : i < k) (hk : k < xs.length) (hc : cb n (xs[i]'(by omega)) xs[k] = true) : pk n xs i (k + 1) = pk n xs i k ++ [[(i : Int), (k : Int)]] := by
  rw [pk, nth_eq hk, nth_eq (by omega), if_pos ⟨hi, hc⟩]
theorem pk_no {n : Int} {xs : List Tst} {i k : Nat} (hi : i < k) (hk : k < xs.length) (hc : cb n (xs[i]'(by omega)) xs[k] = false) : pk n xs i (k + 1) = pk n xs i k := by
  rw [pk, nth_eq hk, nth_eq (by omega), hc]; simp
theorem pk_len (n : Int) (xs : List Tst) (i k : Nat) : (pk n xs i k).length ≤ k ∧ tot (pk n xs i k) = 2 * (pk n xs i k).length := by
  induction k with
  | zero => exact ⟨Nat.le_refl _, rfl⟩
  | succ k ih =>
    rw [pk, List.length_append, tot_app]
    split <;> simp [tot] <;> omega
theorem pa_len (n : Int) (xs : List Tst) (i : Nat) : (pa n xs i).length ≤ i * xs.length ∧ tot (pa n xs i) = 2 * (pa n xs i).length := by
  induction i with
  | zero => exact ⟨Nat.zero_le _, rfl⟩
  | succ i ih =>
    have := pk_len n xs i xs.length
    rw [pa, List.length_append, tot_app, Nat.succ_mul]
    omega
theorem pa_16 {n : Int} {xs : List Tst} {i : Nat} (hx : xs.length ≤ 16) (hi : i ≤ xs.length) : (pa n xs i).length ≤ 256 := by
  have h1 := (pa_len n xs i).1
  have h2 : i * xs.length ≤ 16 * 16 := Nat.mul_le_mul (by omega) hx
  omega
def ctL (xs : List Tst) (n : Int) : List (List Int) := Cd.ls (okS xs) (Ar.inB 0 n 300) (pa n xs xs.length)
def ctC (xs : List Tst) (n : Int) : Int := Cd.cd (okS xs) (Ar.inB 0 n 300) 0
theorem ctL_len (xs : List Tst) (n : Int) : tot (ctL xs n) ≤ 1048576 ∧ (ctL xs n).length ≤ 1048576 := by
  unfold ctL
  cases hq : okS xs with
  | false => rw [Cd.ls_f]; simp [tot]
  | true =>
    cases hs : Ar.inB 0 n 300 with
    | false => rw [Cd.ls_tf]; simp [tot]
    | true =>
      rw [Cd.ls_t]
      have h1 := pa_16 (n := n) (len_ok hq) (Nat.le_refl _)
      have h2 := (pa_len n xs xs.length).2
      omega
theorem ab_sub (a b : Int) : Ar.ab (a - b) = Ar.ab (b - a) := by unfold Ar.ab; split <;> split <;> omega
end Tq
/-- how a call ends that answers rows of numbers and a code -/
def RSS (w : World) (l : List (List Int)) (c : Int) (e : Ending) (w' : World) : Prop := ∃ u, e = .returned (.tuple #[u, .int .i64 c]) ∧ OwnSS w.heap.size w' u l ∧ Below w.heap.size w w'
theorem RSS.no {w w' : World} {c : Int} (hb : Below w.heap.size w w') : RSS w [] c (.returned (.tuple #[.slice none 0 0, .int .i64 c])) w' := ⟨_, rfl, OwnSS.nil, hb⟩
theorem row_new1 (w : World) (o : Obj) (cs : List Value) (t : TypeId) : ∀ j u, cs[j]? = some u → ((w.alloc o).alloc (.cells cs.toArray t)).cell? ((⟨w.heap.size + 1, 0, none⟩ : Addr).add j) = some u := by
  have := row_new (w.alloc o) cs t
  rwa [show (w.alloc o).heap.size = w.heap.size + 1 by simp] at this
theorem one_slice (a : Option Addr) (n c : Nat) : ∀ u ∈ [Value.slice a n c], u.oneCell' = true := by
  intro u hu; simp only [List.mem_singleton] at hu; subst hu; rfl
/-- a pair is put behind the rows -/
theorem OSS.pair {B : Nat} {w w3 : World} {v v' : Value} {L : List Rw} {a b : Int} {o : Obj} (h : OSS B w v L) (hB : B ≤ w.heap.size)
    (ho : w3.ownsRow B 41 1 v' (L.length + 1) (L.map rwV ++ [.slice (some ⟨w.heap.size, 0, none⟩) 2 2])) (hg : ((w.alloc (.cells #[.int .i64 a, .int .i64 b] 2)).alloc o).grownBy w3 v.ownBlock) :
    OSS B w3 v' (L ++ [(w.heap.size, 2, [a, b])]) ∧ Below B w w3 := by
  have b1 : Below w.heap.size w ((w.alloc (.cells #[.int .i64 a, .int .i64 b] 2)).alloc o) := ((Below.refl _ _).alloc (Nat.le_refl _) _).alloc (by simp) _
  have r1 : Own B ((w.alloc (.cells #[.int .i64 a, .int .i64 b] 2)).alloc o) (rwV (w.heap.size, 2, [a, b])) [a, b] :=
    own_belowAll (World.ownsRow_lit w #[.int .i64 a, .int .i64 b] 2 hB (by decide) rfl) ((Below.refl _ _).alloc (Nat.le_refl _) _)
  refine ⟨(h.belowAll b1).snoc r1 (fun s hs => ?_) (fun e => ?_) ho hg, (b1.mono hB).grown hg ?_ (fun j hj => ?_)⟩
  · have := (World.ownsRow.lt (h.row s hs) s.1 rfl).2
    exact Nat.ne_of_lt this
  · have := (World.ownsRow.lt h.outer _ e).2
    exact Nat.lt_irrefl _ this
  · have := b1.size; omega
  · exact (World.ownsRow.lt h.outer j hj).1
end Go.Proofs.YteileaeeiejonaaDoor

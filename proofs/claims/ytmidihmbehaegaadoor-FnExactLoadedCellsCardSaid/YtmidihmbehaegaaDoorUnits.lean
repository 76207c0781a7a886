import Derived.Test.YtmidihmbehaegaaDoorNum
namespace Go.Proofs.YtmidihmbehaegaaDoor
open Go.RowKit
set_option linter.unusedVariables false

/-- a value and a code: of what is as it should be, and of what is not -/
def rv (b : Bool) (v : Int) : Int := if b then v else 0
def rc (b : Bool) (c : Int) : Int := if b then 0 else c
theorem rv_t (v : Int) : rv true v = v := rfl
theorem rv_f (v : Int) : rv false v = 0 := rfl
theorem rc_t (c : Int) : rc true c = 0 := rfl
theorem rc_f (c : Int) : rc false c = c := rfl
theorem ret_ii {a b c d : Int} (h : a = b) (h' : c = d) : Ending.returned (.tuple #[.int .i64 a, .int .i64 c]) = .returned (.tuple #[.int .i64 b, .int .i64 d]) := by rw [h, h']
theorem in_cases (l x h : Int) : (l ≤ x ∧ x ≤ h ∧ Ar.inB l x h = true) ∨ (¬ (l ≤ x ∧ x ≤ h) ∧ Ar.inB l x h = false) := by
  by_cases c : l ≤ x ∧ x ≤ h
  · exact Or.inl ⟨c.1, c.2, Ar.inB_t c.1 c.2⟩
  · exact Or.inr ⟨c, Ar.inB_f c⟩


/-- the weekday of a day -/
def wday (d : Int) : Int := (d + 5) % 7

/-- are both numbers within their bounds? -/
def two (l1 x1 h1 l2 x2 h2 : Int) : Bool := Ar.inB l1 x1 h1 && Ar.inB l2 x2 h2
theorem two_t {l1 x1 h1 l2 x2 h2 : Int} (h : Ar.inB l1 x1 h1 = true) (h' : Ar.inB l2 x2 h2 = true) : two l1 x1 h1 l2 x2 h2 = true := by unfold two; rw [h, h']; rfl
theorem two_f {l1 x1 h1 l2 x2 h2 : Int} (h : Ar.inB l1 x1 h1 = false ∨ Ar.inB l2 x2 h2 = false) : two l1 x1 h1 l2 x2 h2 = false := by
  unfold two; rcases h with h | h <;> rw [h] <;> simp
end Go.Proofs.YtmidihmbehaegaaDoor

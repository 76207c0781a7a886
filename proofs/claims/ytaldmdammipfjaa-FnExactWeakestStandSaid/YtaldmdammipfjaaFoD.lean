/-
  The stands that protect enough, by the model and by the program. The condition: no name is longer than 2^20.
-/
import Derived.Test.YtaldmdammipfjaaFoB
import Derived.Test.YtaldmdammipfjaaFoP
import Derived.Test.YtaldmdammipfjaaIntsM
import Derived.Laws.AppendOwn
import Derived.Laws.OwnMore
namespace Go.Proofs.Ytaldmdammipfjaa
open Go.RowKit Go.Shelf
set_option linter.unusedVariables false
set_option maxRecDepth 100000

/-- how a call ends that answers numbers and a code -/
def RIs (w : World) (l : List Int) (c : Int) (e : Ending) (w' : World) : Prop := ∃ u, e = .returned (.tuple #[u, .int .i64 c]) ∧ Own w.heap.size w' u l ∧ Below w.heap.size w w'
theorem RIs.no {w w' : World} {c : Int} (hb : Below w.heap.size w w') : RIs w [] c (.returned (.tuple #[.slice none 0 0, .int .i64 c])) w' := ⟨_, rfl, World.ownsRow_nil _ _ _ _, hb⟩
theorem RIs.yes {w w' : World} {u : Value} {l l' : List Int} {c c' : Int} (hl : l' = l) (hc : c = c') (ho : Own w.heap.size w' u l) (hb : Below w.heap.size w w') : RIs w l' c' (.returned (.tuple #[u, .int .i64 c])) w' := by
  subst hl hc; exact ⟨_, rfl, ho, hb⟩
/-- how a call ends that answers numbers -/
def RJs (w : World) (l : List Int) (e : Ending) (w' : World) : Prop := ∃ u, e = .returned u ∧ Own w.heap.size w' u l ∧ Below w.heap.size w w'
theorem l10Prot_b (x : Std) (b o : Nat) (s : Int) (w : World) (h : SnCells w b o x) (hf : Fo.Fits x) (h1 : 0 ≤ s) (h2 : s ≤ 2000) :
    Calls Try.prog 68 #[.pointer (some ⟨b, o, none⟩), .int .i64 s] w fun e w' => e = .returned (.int .i64 (Fo.pr x s)) ∧ Below w.heap.size w w' :=
  (l10Protection_any x b o s w h hf h1 h2).mono fun _ _ ⟨h, q, hq⟩ => ⟨h, by rw [hq]; exact below_drewW _ _⟩
/-! ### the program -/
end Go.Proofs.Ytaldmdammipfjaa

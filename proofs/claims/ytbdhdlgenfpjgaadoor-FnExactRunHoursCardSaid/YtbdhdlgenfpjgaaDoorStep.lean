/-
  'append' at a step of a region that draws its order: a law for the walk. No condition of its own.
-/
import Derived.Test.YtbdhdlgenfpjgaaDoorLays
import Derived.Laws.AppendOwn
import Derived.Deep.RegionHeld3
import Derived.Deep.AppendLies
namespace Go.Proofs.YtbdhdlgenfpjgaaDoor
open Go.RowKit Go.Deep
set_option linter.unusedVariables false
set_option maxRecDepth 100000

/-- 'append' to a row of the call's own, at a step of a region that draws its order: also of nothing at all -/
theorem step_append_own {P : Program} {w : World} {ops : Array Oper} {o : Oper} {a : Act} {K : Act → World → Prop} {Q : Exit → Act → World → Prop} {E : Prop} (hgd : o.guard = none) (s x : Operand) (t : TypeId)
    (ho : o.op = .call { callee := .builtin .append, args := #[s, x], argTypes := #[t, t] })
    (base : Nat) (e : TypeId) (i : TypeInfo) (z : Value) (size bytes : Nat) (ht : P.underlying t = some (.slice e)) (hi : P.info? e = some i) (hz : i.zero = some z)
    (hsize : i.size = size) (hby : i.bytes = bytes) (hzs : z.cells.size = size) (hsz : 0 < size)
    (v : Value) (n : Nat) (xs : List Value) (hs : a.eval s = v) (hown : w.ownsRow base e size v n xs)
    (ad : Addr) (m c : Nat) (news : List Value) (hx : a.eval x = .slice (some ad) m c) (hl : news.length = m * size) (hnews : ∀ j u, news[j]? = some u → w.cell? (ad.add j) = some u) (h1 : ∀ u ∈ news, u.oneCell' = true)
    (h63 : n + m ≤ maxLen) (hbytes : (n + m) * bytes ≤ 140737488355328) (hbase : base ≤ w.heap.size)
    (h : ∀ v' w', w'.ownsRow base e size v' (n + m) (xs ++ news) → w.grownBy w' v.ownBlock → K (a.put o.dst v') w') :
    if Region.wanted o (yielded ops a.tmps) = true then Oper.wp P o a w K Q else E := by
  have hw : Region.wanted o (yielded ops a.tmps) = true := by simp [Region.wanted, hgd]
  rw [if_pos hw]
  exact wp_append_own w s x t ho base e i z size bytes ht hi hz hsize hby hzs hsz v n xs hs hown ad m c news hx hl hnews h1 h63 hbytes hbase (fun v' w' a b _ => h v' w' a b)
/-- what a call that answers a list of layers and a code leaves -/
def RLC (w : World) (c : Int) (xs : List Lay) (e : Ending) (w' : World) : Prop := ∃ u, e = .returned (.tuple #[u, .int .i64 c]) ∧ LOwn w.heap.size w' u xs ∧ Below w.heap.size w w'
theorem RLC.no {w w' : World} {c d : Int} {xs : List Lay} (h : d = c ∧ xs = []) (hb : Below w.heap.size w w') : RLC w d xs (.returned (.tuple #[.slice none 0 0, .int .i64 c])) w' := by
  obtain ⟨rfl, rfl⟩ := h
  exact ⟨_, rfl, LOwn.nil _ _, hb⟩
theorem RLC.yes {w w' : World} {c d : Int} {xs ys : List Lay} {u : Value} (h : d = c ∧ xs = ys) (ho : LOwn w.heap.size w' u ys) (hb : Below w.heap.size w w') : RLC w d xs (.returned (.tuple #[u, .int .i64 c])) w' := by
  obtain ⟨rfl, rfl⟩ := h
  exact ⟨_, rfl, ho, hb⟩
theorem LOwn.far {B x : Nat} {w w1 : World} {v : Value} {xs : List Lay} (h : LOwn B w v xs) (hg : w.grownBy w1 (some x)) (hx : x < B) : LOwn B w1 v xs := own_far h hg hx
end Go.Proofs.YtbdhdlgenfpjgaaDoor

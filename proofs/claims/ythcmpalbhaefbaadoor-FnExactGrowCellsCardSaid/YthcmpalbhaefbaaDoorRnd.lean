/-
  A region that draws its order, in a round of a range over a function: it runs as outside of a round, where it holds no defer statement. No condition of its own.
-/
import Derived.Test.YthcmpalbhaefbaaDoorTrI
import Derived.RangeFuncCalls
import Derived.OrdersIn
namespace Go.Proofs.YthcmpalbhaefbaaDoor
open Go.RowKit Go.Shelf Go.Deep
set_option linter.unusedVariables false
set_option maxRecDepth 100000
def noDefer (o : Oper) : Bool := match o.op with | .defer _ => false | _ => true
theorem noDefer_ne {o : Oper} (h : noDefer o = true) : ∀ c, o.op ≠ .defer c := fun c e => by unfold noDefer at h; rw [e] at h; cases h
theorem op_round {l n : Nat} {P : Program} {o : Oper} {a : Act} {w : World} {K : Act → World → Prop} {Q : Exit → Act → World → Prop} (hnd : ∀ c, o.op ≠ .defer c) (h : Oper.wpIn Fence.wide n P o a w K Q) : Oper.wpIn (Fence.wide.inRound l) n P o a w K Q := by
  unfold Oper.wpIn at *
  refine ⟨h.1, ?_⟩
  have h2 := h.2
  have e1 : o.semAt (Fence.wide.inRound l).round a.eval = execOp a.eval o := Oper.semAt_some l _ _ hnd
  have e2 : o.semAt Fence.wide.round a.eval = execOp a.eval o := Oper.semAt_plain Fence.wide _ _ hnd
  rw [e2] at h2
  rw [e1]
  exact h2
theorem ops_round {l n : Nat} {P : Program} {ops : Array Oper} {Q : Exit → Act → World → Prop} (hnd : ∀ (i : Nat) (o : Oper), ops[i]? = some o → noDefer o = true) : ∀ (t : List Nat) (a : Act) (w : World), wpOpsIn Fence.wide n P ops Q t a w → wpOpsIn (Fence.wide.inRound l) n P ops Q t a w
  | [], a, w, h => h
  | i :: t, a, w, h => by
    simp only [wpOpsIn] at h ⊢
    cases ho : ops[i]? with
    | none => rw [ho] at h; exact ops_round hnd t a w h
    | some o =>
      rw [ho] at h
      simp only at h ⊢
      split
      · rename_i hw
        rw [if_pos hw] at h
        exact op_round (noDefer_ne (hnd i o ho)) (Oper.wpIn_mono (fun a w h => ops_round hnd t a w h) h)
      · rename_i hw
        rw [if_neg hw] at h
        exact ⟨h.1, ops_round hnd t _ w h.2⟩
theorem region_round {l n id : Nat} {P : Program} {ops : Array Oper} {Q : Exit → Act → World → Prop} {a : Act} {w : World} (hm : P.follows .mixedOrders = true) (hnd : ops.toList.all noDefer = true)
    (h : wpAnyIn Fence.wide n P .any ops Q ops.size (Array.replicate ops.size false) a w.drew) : (Code.region id ops true).wpIn (Fence.wide.inRound l) n P Q a w :=
  wpIn_region_draw fun t => by
    simp only [Region.schedule, hm, Bool.true_or, if_true]
    refine ops_round (fun i o ho => ?_) _ _ _ (wpAnyIn_sound ops.size t _ a _ h)
    rw [List.all_eq_true] at hnd
    exact hnd o (by rw [Array.mem_toList_iff]; exact Array.mem_of_getElem? ho)
end Go.Proofs.YthcmpalbhaefbaaDoor

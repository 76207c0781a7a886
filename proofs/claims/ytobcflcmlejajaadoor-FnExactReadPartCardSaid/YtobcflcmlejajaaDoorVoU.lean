/-
  One part read back out of its text, by the model and by the program. No condition of its own.
-/
import Derived.Test.YtobcflcmlejajaaDoorVoT
namespace Go.Proofs.YtobcflcmlejajaaDoor
open Go.RowKit Go.ChangeShapes Go.WideShapes Go.Deep
set_option linter.unusedVariables false
set_option maxRecDepth 100000

namespace Vm
/-- no part -/
def oz : Pat := ⟨0, 0, 0, 0⟩
/-- the part with four numbers -/
def o4 (zs : List Int) : Option Pat := match zs with
  | [a, b, c, d] => if okP ⟨a, b, c, d⟩ = true then some ⟨a, b, c, d⟩ else none
  | _ => none
/-- the part with a text -/
def ro (l : List UInt8) : Option Pat := (rl l).bind o4
theorem ro_n {l : List UInt8} (h : rl l = none) : ro l = none := by unfold ro; rw [h]; rfl
theorem ro_len {l : List UInt8} {zs : List Int} (h : rl l = some zs) (h2 : zs.length ≠ 4) : ro l = none := by
  unfold ro; rw [h]
  match zs, h2 with
  | [], _ => rfl
  | [_], _ => rfl
  | [_, _], _ => rfl
  | [_, _, _], _ => rfl
  | [_, _, _, _], h2 => simp at h2
  | _ :: _ :: _ :: _ :: _ :: _, _ => rfl
theorem ro_bad {l : List UInt8} {a b c d : Int} (h : rl l = some [a, b, c, d]) (h2 : okP ⟨a, b, c, d⟩ = false) : ro l = none := by
  unfold ro; rw [h]; show o4 [a, b, c, d] = none; unfold o4; simp [h2]
theorem ro_ok {l : List UInt8} {a b c d : Int} (h : rl l = some [a, b, c, d]) (h2 : okP ⟨a, b, c, d⟩ = true) : ro l = some ⟨a, b, c, d⟩ := by
  unfold ro; rw [h]; show o4 [a, b, c, d] = _; unfold o4; simp [h2]
theorem four {zs : List Int} (h : zs.length = 4) : ∃ a b c d, zs = [a, b, c, d] := by
  match zs, h with
  | [a, b, c, d], _ => exact ⟨a, b, c, d, rfl⟩
end Vm
/-- what reading an part leaves -/
def RR (w : World) (o : Option Pat) (e : Ending) (w' : World) : Prop :=
  e = .returned (.tuple #[.agg #[.int .i64 (o.getD Vm.oz).le, .int .i64 (o.getD Vm.oz).wi, .int .i64 (o.getD Vm.oz).de, .int .i64 (o.getD Vm.oz).dn], .bool o.isSome]) ∧ Below w.heap.size w w'
theorem RR.no {w w' : World} {o : Option Pat} (ho : o = none) (hb : Below w.heap.size w w') : RR w o (.returned (.tuple #[.agg #[.int .i64 0, .int .i64 0, .int .i64 0, .int .i64 0], .bool false])) w' := by
  subst ho; exact ⟨rfl, hb⟩
theorem RR.yes {w w' : World} {o : Option Pat} {a b c d : Int} (ho : o = some ⟨a, b, c, d⟩) (hb : Below w.heap.size w w') : RR w o (.returned (.tuple #[.agg #[.int .i64 a, .int .i64 b, .int .i64 c, .int .i64 d], .bool true])) w' := by
  subst ho; exact ⟨rfl, hb⟩

/-- the box of a result that has been written -/
def setR (w : World) (g : Nat) (x : Pat) : World := (((w.setCell ⟨g, 0, none⟩ (.int .i64 x.le)).setCell ⟨g, 1, none⟩ (.int .i64 x.wi)).setCell ⟨g, 2, none⟩ (.int .i64 x.de)).setCell ⟨g, 3, none⟩ (.int .i64 x.dn)
theorem setR_cells {w : World} {g : Nat} {t : TypeId} {a b c d : Int} (h : Whole w g t #[.int .i64 a, .int .i64 b, .int .i64 c, .int .i64 d]) (x : Pat) : Whole (setR w g x) g t #[.int .i64 x.le, .int .i64 x.wi, .int .i64 x.de, .int .i64 x.dn] := by
  have := (((h.put 0 (.int .i64 x.le)).put 1 (.int .i64 x.wi)).put 2 (.int .i64 x.de)).put 3 (.int .i64 x.dn)
  unfold setR
  simpa using this
theorem setR_below {w0 w : World} {g : Nat} (h : Below w0.heap.size w0 w) (hg : w0.heap.size ≤ g) (x : Pat) : Below w0.heap.size w0 (setR w g x) := by
  unfold setR
  exact (((h.setCell (p := ⟨g, 0, none⟩) hg _).setCell (p := ⟨g, 1, none⟩) hg _).setCell (p := ⟨g, 2, none⟩) hg _).setCell (p := ⟨g, 3, none⟩) hg _

theorem own_four {B : Nat} {w : World} {u : Value} {zs : List Int} (h : Own B w u zs) (hn : 0 < zs.length) :
    ∃ g cap, u = .slice (some ⟨g, 0, none⟩) zs.length cap ∧ ∀ j x, zs[j]? = some x → w.cell? ⟨g, j, none⟩ = some (.int .i64 x) := by
  obtain ⟨g, cap, rfl⟩ := Go.Joins.ownsRow_form h hn
  refine ⟨g, cap, rfl, fun j x hx => ?_⟩
  have hj : j < zs.length := (List.getElem?_eq_some_iff.1 hx).1
  rw [World.ownsRow.cellAt h j (by omega)]
  exact iv_at hx

theorem Whole.drew {w : World} {g : Nat} {t : TypeId} {cs : Array Value} (h : Whole w g t cs) : Whole w.drew g t cs := h.drewN 1
theorem box_drew (w : World) (a b c d : Int) (t : TypeId) : PaCells (w.alloc (.cells #[.int .i64 a, .int .i64 b, .int .i64 c, .int .i64 d] t)).drew w.heap.size 0 ⟨a, b, c, d⟩ := (boxPat_cells w ⟨a, b, c, d⟩ t).drewN 1
theorem alloc_drew {w w1 : World} (h : Below w.heap.size w w1) (o : Obj) : Below w.heap.size w (w1.alloc o).drew := bt (h.alloc h.size o) (below_drewW _ 1)
theorem alloc_lt (w : World) (o : Obj) : w.heap.size < (w.alloc o).drew.heap.size := by show w.heap.size < (w.alloc o).heap.size; simp

set_option maxHeartbeats 3200000 in
theorem specReadPart_any (s : ByteArray) (w : World) (hs : s.size ≤ 1048576) :
    Calls Tryd.prog 44 #[.string s] w (RR w (Vm.ro s.data.toList)) := by
  have HB := Lib.hid (boxPat_below w Vm.oz 59)
  have C := Lib.hid (specReadList_any s (boxPat w Vm.oz 59) hs)
  have HK : Hid (∀ w1, Below (boxPat w Vm.oz 59).heap.size (boxPat w Vm.oz 59) w1 → Whole w1 w.heap.size 59 #[.int .i64 0, .int .i64 0, .int .i64 0, .int .i64 0]) := Lib.hid (fun w1 h => (Whole.new w _ _).all h)
  generalize hl : rl s.data.toList = l at *
  cases l with
  | none =>
    have hr := Lib.hid (Vm.ro_n hl)
    clear hl
    unfold boxPat Vm.oz at C HB HK
    go_enter Tryd.func44, Tryd.ntmps44
    go_wp2_with fail
    refine C.out.mono ?_
    rintro e w1 ⟨u, rfl, ho, b1⟩
    have k := HK.out w1 b1
    have R := Lib.hid (setR_cells k Vm.oz)
    have B1 := Lib.hid (setR_below (bt HB.out b1) (Nat.le_refl _) Vm.oz)
    have c0 : w1.cell? ⟨w.heap.size, 0, none⟩ = some (.int .i64 0) := k.at_ 0
    have c1 : w1.cell? ⟨w.heap.size, 1, none⟩ = some (.int .i64 0) := k.at_ 1
    have c2 : w1.cell? ⟨w.heap.size, 2, none⟩ = some (.int .i64 0) := k.at_ 2
    have c3 : w1.cell? ⟨w.heap.size, 3, none⟩ = some (.int .i64 0) := k.at_ 3
    have f0 := k.free 0
    have f1 := k.free 1
    have f2 := k.free 2
    have f3 := k.free 3
    clear ho b1 k
    go_wp2_with fail
    change bodyPost _ _ _ _ _ (setR w1 w.heap.size Vm.oz)
    have d0 : (setR w1 w.heap.size Vm.oz).cell? ⟨w.heap.size, 0, none⟩ = some (.int .i64 0) := R.out.at_ 0
    have d1 : (setR w1 w.heap.size Vm.oz).cell? ⟨w.heap.size, 1, none⟩ = some (.int .i64 0) := R.out.at_ 1
    have d2 : (setR w1 w.heap.size Vm.oz).cell? ⟨w.heap.size, 2, none⟩ = some (.int .i64 0) := R.out.at_ 2
    have d3 : (setR w1 w.heap.size Vm.oz).cell? ⟨w.heap.size, 3, none⟩ = some (.int .i64 0) := R.out.at_ 3
    generalize setR w1 w.heap.size Vm.oz = W at *
    exact bodyPost_ret (v := .tuple #[.agg #[.int .i64 0, .int .i64 0, .int .i64 0, .int .i64 0], .bool false]) (by simp [results, Tryd.results44, go_sem, d0, d1, d2, d3]) rfl (RR.no hr.out B1.out)
  | some zs =>
    by_cases hz : zs.length = 4
    · obtain ⟨a, b, c, d, rfl⟩ := Vm.four hz
      clear hz
      cases hx : Vm.okP ⟨a, b, c, d⟩ with
      | false =>
        have hr := Lib.hid (Vm.ro_bad hl hx)
        have HX := Lib.hid hx
        clear hl hx
        unfold boxPat Vm.oz at C HB HK
        go_enter Tryd.func44, Tryd.ntmps44
        go_wp2_with fail
        refine C.out.mono ?_
        rintro e w1 ⟨u, rfl, ho, b1⟩
        have K1 := Lib.hid (HK.out w1 b1)
        have B0 := Lib.hid (bt HB.out b1)
        obtain ⟨g, cap, rfl, hc⟩ := own_four ho (by simp)
        have e0 : w1.cell? ⟨g, 0, none⟩ = some (.int .i64 a) := hc 0 _ rfl
        have e1 : w1.cell? ⟨g, 1, none⟩ = some (.int .i64 b) := hc 1 _ rfl
        have e2 : w1.cell? ⟨g, 2, none⟩ = some (.int .i64 c) := hc 2 _ rfl
        have e3 : w1.cell? ⟨g, 3, none⟩ = some (.int .i64 d) := hc 3 _ rfl
        have hln : ((some [a, b, c, d]).getD []).length = 4 := rfl
        rw [hln]
        have hg : g < w1.heap.size := World.block_lt_of_cell? w1 _ e0
        clear ho b1 hc hln
        go_wp2_with fail
        go_region
        have K2 := Lib.hid ((K1.out.alloc (.cells #[.int .i64 a, .int .i64 b, .int .i64 c, .int .i64 d] 59)).drew)
        have X2 := Lib.hid (box_drew w1 a b c d 59)
        have B2 := Lib.hid (alloc_drew B0.out (.cells #[.int .i64 a, .int .i64 b, .int .i64 c, .int .i64 d] 59))
        have L2 := alloc_lt w1 (.cells #[.int .i64 a, .int .i64 b, .int .i64 c, .int .i64 d] 59)
        have C5 := Lib.hid (l12One_any ⟨a, b, c, d⟩ _ 0 _ X2.out)
        rw [HX.out] at C5
        generalize (w1.alloc (.cells #[.int .i64 a, .int .i64 b, .int .i64 c, .int .i64 d] 59)).drew = w2 at *
        all_goals (
          go_wp2_with fail
          refine C5.out.mono ?_
          rintro e w3 ⟨rfl, rfl⟩
          have K3 := K2
          have X3 := X2
          have k := K3.out
          have R := Lib.hid (setR_cells k Vm.oz)
          have B3 := Lib.hid (setR_below B2.out (Nat.le_refl _) Vm.oz)
          have c0 : w2.cell? ⟨w.heap.size, 0, none⟩ = some (.int .i64 0) := k.at_ 0
          have c1 : w2.cell? ⟨w.heap.size, 1, none⟩ = some (.int .i64 0) := k.at_ 1
          have c2 : w2.cell? ⟨w.heap.size, 2, none⟩ = some (.int .i64 0) := k.at_ 2
          have c3 : w2.cell? ⟨w.heap.size, 3, none⟩ = some (.int .i64 0) := k.at_ 3
          have f0 := k.free 0
          have f1 := k.free 1
          have f2 := k.free 2
          have f3 := k.free 3
          clear k
          go_wp2_with fail
          change bodyPost _ _ _ _ _ (setR w2 w.heap.size Vm.oz)
          have d0 : (setR w2 w.heap.size Vm.oz).cell? ⟨w.heap.size, 0, none⟩ = some (.int .i64 0) := R.out.at_ 0
          have d1 : (setR w2 w.heap.size Vm.oz).cell? ⟨w.heap.size, 1, none⟩ = some (.int .i64 0) := R.out.at_ 1
          have d2 : (setR w2 w.heap.size Vm.oz).cell? ⟨w.heap.size, 2, none⟩ = some (.int .i64 0) := R.out.at_ 2
          have d3 : (setR w2 w.heap.size Vm.oz).cell? ⟨w.heap.size, 3, none⟩ = some (.int .i64 0) := R.out.at_ 3
          generalize setR w2 w.heap.size Vm.oz = W at *
          exact bodyPost_ret (v := .tuple #[.agg #[.int .i64 0, .int .i64 0, .int .i64 0, .int .i64 0], .bool false]) (by simp [results, Tryd.results44, go_sem, d0, d1, d2, d3]) rfl (RR.no hr.out B3.out))
      | true =>
        have hr := Lib.hid (Vm.ro_ok hl hx)
        have HX := Lib.hid hx
        clear hl hx
        unfold boxPat Vm.oz at C HB HK
        go_enter Tryd.func44, Tryd.ntmps44
        go_wp2_with fail
        refine C.out.mono ?_
        rintro e w1 ⟨u, rfl, ho, b1⟩
        have K1 := Lib.hid (HK.out w1 b1)
        have B0 := Lib.hid (bt HB.out b1)
        obtain ⟨g, cap, rfl, hc⟩ := own_four ho (by simp)
        have e0 : w1.cell? ⟨g, 0, none⟩ = some (.int .i64 a) := hc 0 _ rfl
        have e1 : w1.cell? ⟨g, 1, none⟩ = some (.int .i64 b) := hc 1 _ rfl
        have e2 : w1.cell? ⟨g, 2, none⟩ = some (.int .i64 c) := hc 2 _ rfl
        have e3 : w1.cell? ⟨g, 3, none⟩ = some (.int .i64 d) := hc 3 _ rfl
        have hln : ((some [a, b, c, d]).getD []).length = 4 := rfl
        rw [hln]
        have hg : g < w1.heap.size := World.block_lt_of_cell? w1 _ e0
        clear ho b1 hc hln
        go_wp2_with fail
        go_region
        have K2 := Lib.hid ((K1.out.alloc (.cells #[.int .i64 a, .int .i64 b, .int .i64 c, .int .i64 d] 59)).drew)
        have X2 := Lib.hid (box_drew w1 a b c d 59)
        have B2 := Lib.hid (alloc_drew B0.out (.cells #[.int .i64 a, .int .i64 b, .int .i64 c, .int .i64 d] 59))
        have L2 := alloc_lt w1 (.cells #[.int .i64 a, .int .i64 b, .int .i64 c, .int .i64 d] 59)
        have C5 := Lib.hid (l12One_any ⟨a, b, c, d⟩ _ 0 _ X2.out)
        rw [HX.out] at C5
        generalize (w1.alloc (.cells #[.int .i64 a, .int .i64 b, .int .i64 c, .int .i64 d] 59)).drew = w2 at *
        all_goals (
          go_wp2_with fail
          refine C5.out.mono ?_
          rintro e w3 ⟨rfl, rfl⟩
          have K3 := K2
          have X3 := X2
          obtain ⟨x0, x1, x2, x3⟩ := X3.out.zero
          have k := K3.out
          have R := Lib.hid (setR_cells k ⟨a, b, c, d⟩)
          have B3 := Lib.hid (setR_below B2.out (Nat.le_refl _) ⟨a, b, c, d⟩)
          have c0 : w2.cell? ⟨w.heap.size, 0, none⟩ = some (.int .i64 0) := k.at_ 0
          have c1 : w2.cell? ⟨w.heap.size, 1, none⟩ = some (.int .i64 0) := k.at_ 1
          have c2 : w2.cell? ⟨w.heap.size, 2, none⟩ = some (.int .i64 0) := k.at_ 2
          have c3 : w2.cell? ⟨w.heap.size, 3, none⟩ = some (.int .i64 0) := k.at_ 3
          have f0 := k.free 0
          have f1 := k.free 1
          have f2 := k.free 2
          have f3 := k.free 3
          clear k
          go_wp2_with fail
          change bodyPost _ _ _ _ _ (setR w2 w.heap.size ⟨a, b, c, d⟩)
          have d0 : (setR w2 w.heap.size ⟨a, b, c, d⟩).cell? ⟨w.heap.size, 0, none⟩ = some (.int .i64 a) := R.out.at_ 0
          have d1 : (setR w2 w.heap.size ⟨a, b, c, d⟩).cell? ⟨w.heap.size, 1, none⟩ = some (.int .i64 b) := R.out.at_ 1
          have d2 : (setR w2 w.heap.size ⟨a, b, c, d⟩).cell? ⟨w.heap.size, 2, none⟩ = some (.int .i64 c) := R.out.at_ 2
          have d3 : (setR w2 w.heap.size ⟨a, b, c, d⟩).cell? ⟨w.heap.size, 3, none⟩ = some (.int .i64 d) := R.out.at_ 3
          generalize setR w2 w.heap.size ⟨a, b, c, d⟩ = W at *
          exact bodyPost_ret (v := .tuple #[.agg #[.int .i64 a, .int .i64 b, .int .i64 c, .int .i64 d], .bool true]) (by simp [results, Tryd.results44, go_sem, d0, d1, d2, d3]) rfl (RR.yes hr.out B3.out))
    · have hr := Lib.hid (Vm.ro_len hl hz)
      have hne : ((zs.length : Int) == 4) = false := beq_eq_false_iff_ne.2 (by omega)
      have hne2 : ((zs.length : Int) != 4) = true := by rw [bne, hne]; rfl
      clear hl hz
      unfold boxPat Vm.oz at C HB HK
      go_enter Tryd.func44, Tryd.ntmps44
      go_wp2_with fail
      refine C.out.mono ?_
      rintro e w1 ⟨u, rfl, ho, b1⟩
      have k := HK.out w1 b1
      have R := Lib.hid (setR_cells k Vm.oz)
      have B1 := Lib.hid (setR_below (bt HB.out b1) (Nat.le_refl _) Vm.oz)
      have c0 : w1.cell? ⟨w.heap.size, 0, none⟩ = some (.int .i64 0) := k.at_ 0
      have c1 : w1.cell? ⟨w.heap.size, 1, none⟩ = some (.int .i64 0) := k.at_ 1
      have c2 : w1.cell? ⟨w.heap.size, 2, none⟩ = some (.int .i64 0) := k.at_ 2
      have c3 : w1.cell? ⟨w.heap.size, 3, none⟩ = some (.int .i64 0) := k.at_ 3
      have f0 := k.free 0
      have f1 := k.free 1
      have f2 := k.free 2
      have f3 := k.free 3
      obtain ⟨aa, cap, rfl⟩ := ho.sl.form
      simp only [Option.getD_some] at *
      clear ho b1 k
      go_wp2_with fail
      change bodyPost _ _ _ _ _ (setR w1 w.heap.size Vm.oz)
      have d0 : (setR w1 w.heap.size Vm.oz).cell? ⟨w.heap.size, 0, none⟩ = some (.int .i64 0) := R.out.at_ 0
      have d1 : (setR w1 w.heap.size Vm.oz).cell? ⟨w.heap.size, 1, none⟩ = some (.int .i64 0) := R.out.at_ 1
      have d2 : (setR w1 w.heap.size Vm.oz).cell? ⟨w.heap.size, 2, none⟩ = some (.int .i64 0) := R.out.at_ 2
      have d3 : (setR w1 w.heap.size Vm.oz).cell? ⟨w.heap.size, 3, none⟩ = some (.int .i64 0) := R.out.at_ 3
      generalize setR w1 w.heap.size Vm.oz = W at *
      exact bodyPost_ret (v := .tuple #[.agg #[.int .i64 0, .int .i64 0, .int .i64 0, .int .i64 0], .bool false]) (by simp [results, Tryd.results44, go_sem, d0, d1, d2, d3]) rfl (RR.no hr.out B1.out)
end Go.Proofs.YtobcflcmlejajaaDoor

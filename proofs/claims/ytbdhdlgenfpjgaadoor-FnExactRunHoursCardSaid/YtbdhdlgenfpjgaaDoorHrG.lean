/-
  SettleProfile, WarmTop, CoolTop, DrainProfile of chapter 5: by the program and by the model. No condition of its own.
-/
import Derived.Test.YtbdhdlgenfpjgaaDoorStep
import Derived.Test.YtbdhdlgenfpjgaaDoorHrE
import Derived.Test.YtbdhdlgenfpjgaaDoorHrC
import Derived.Test.YtbdhdlgenfpjgaaDoorHrD
import Derived.Test.YtbdhdlgenfpjgaaDoorHrSa
import Derived.Test.YtbdhdlgenfpjgaaDoorHrSc
import Derived.Test.YtbdhdlgenfpjgaaDoorHrSd
import Derived.Test.YtbdhdlgenfpjgaaDoorHrSw
namespace Go.Proofs.YtbdhdlgenfpjgaaDoor
open Go.RowKit Go.Shelf
set_option linter.unusedVariables false
set_option maxRecDepth 100000

namespace La
def pfL (xs ys : List Lay) : List Lay := if okP xs then ys else []
theorem pfL_t {xs ys : List Lay} (h : okP xs = true) : pfL xs ys = ys := by unfold pfL; rw [h]; rfl
theorem pfL_f {xs ys : List Lay} (h : okP xs = false) : pfL xs ys = [] := by unfold pfL; rw [h]; rfl
theorem pfL_len {xs ys : List Lay} (h : ys.length = xs.length) : (pfL xs ys).length ≤ 1048576 := by
  cases hq : okP xs with
  | true => rw [pfL_t hq, h]; have := ((okP_iff xs).1 hq).1; omega
  | false => rw [pfL_f hq]; simp
def htC (xs : List Lay) (j : Int) : Int := if okP xs then (if Ar.inB 0 j 100000000 then 0 else 2) else 1
def htL (f : Lay → Int → Lay × Int × Bool) (xs : List Lay) (j : Int) : List Lay := if okP xs && Ar.inB 0 j 100000000 then (top f xs j).1 else []
def htR (f : Lay → Int → Lay × Int × Bool) (xs : List Lay) (j : Int) : Int := if okP xs && Ar.inB 0 j 100000000 then (top f xs j).2.1 else 0
variable {f : Lay → Int → Lay × Int × Bool} {xs : List Lay} {j : Int}
theorem ht_1 (h : okP xs = false) : htC xs j = 1 ∧ htL f xs j = [] ∧ htR f xs j = 0 := by unfold htC htL htR; simp [h]
theorem ht_2 (h : okP xs = true) (h' : Ar.inB 0 j 100000000 = false) : htC xs j = 2 ∧ htL f xs j = [] ∧ htR f xs j = 0 := by unfold htC htL htR; simp [h, h']
theorem ht_0 (h : okP xs = true) (h' : Ar.inB 0 j 100000000 = true) : htC xs j = 0 ∧ htL f xs j = (top f xs j).1 ∧ htR f xs j = (top f xs j).2.1 := by unfold htC htL htR; simp [h, h']
theorem htL_len (f : Lay → Int → Lay × Int × Bool) (xs : List Lay) (j : Int) : (htL f xs j).length ≤ 1048576 := by
  unfold htL
  split
  · rename_i h
    rw [Bool.and_eq_true] at h
    rw [top_len]; have := ((okP_iff xs).1 h.1).1; omega
  · simp
end La
/-- what a call that answers a list of layers, a number and a code leaves -/
def RLIC (w : World) (xs : List Lay) (r c : Int) (e : Ending) (w' : World) : Prop := ∃ u, e = .returned (.tuple #[u, .int .i64 r, .int .i64 c]) ∧ LOwn w.heap.size w' u xs ∧ Below w.heap.size w w'
theorem RLIC.no {w w' : World} {r c d : Int} {xs : List Lay} (h : d = c ∧ xs = [] ∧ r = 0) (hb : Below w.heap.size w w') : RLIC w xs r d (.returned (.tuple #[.slice none 0 0, .int .i64 0, .int .i64 c])) w' := by
  obtain ⟨rfl, rfl, rfl⟩ := h
  exact ⟨_, rfl, LOwn.nil _ _, hb⟩
theorem RLIC.yes {w w' : World} {c d r s : Int} {xs ys : List Lay} {u : Value} (h : d = c ∧ xs = ys ∧ r = s) (ho : LOwn w.heap.size w' u ys) (hb : Below w.heap.size w w') : RLIC w xs r d (.returned (.tuple #[u, .int .i64 s, .int .i64 c])) w' := by
  obtain ⟨rfl, rfl, rfl⟩ := h
  exact ⟨_, rfl, ho, hb⟩
/-- an argument that is a row of layers of somebody's own -/
def LAt (w : World) (v : Value) (xs : List Lay) : Prop := ∃ B b cap, v = .slice (some ⟨b, 0, none⟩) xs.length cap ∧ LOwn B w v xs
theorem LAt.sl {w : World} {v : Value} {xs : List Lay} (h : LAt w v xs) : LSl w v xs := by obtain ⟨B, b, cap, rfl, ho⟩ := h; exact ho.sl
set_option maxHeartbeats 1600000 in
theorem settledProfile_any (w : World) (v : Value) (xs : List Lay) (hv : LSl w v xs) (hq : La.okP xs = true) :
    Calls Tryd.prog 40 #[v] w (RL w (La.sal xs)) := by
  obtain ⟨h16, hfit⟩ := (La.okP_iff xs).1 hq
  have C := Lib.hid (fromTop_any 53 (enters_of Tryd.func53 (by kernel_rfl) rfl) (fun x l => (La.stl x l, l + La.mass x, true)) (fun l n => 0 ≤ l ∧ l ≤ 2000000 * (n : Int)) 0 w v xs h16 hv ⟨Int.le_refl _, by omega⟩
    (fun x hx l n hn hl => by have := La.mass_in (hfit x hx); show 0 ≤ l + La.mass x ∧ l + La.mass x ≤ 2000000 * ((n + 1 : Nat) : Int); push_cast; omega)
    (fun x hx l n hn hl W => settleLit_any x l W (hfit x hx) hl.1 (by omega)))
  rw [La.sal_top0] at C
  have HL := Lib.hid (La.sal_len xs)
  clear hv hq hfit
  go_enter Tryd.func40, Tryd.ntmps40
  go_wp2_with fail
  refine C.out.mono ?_
  rintro e w1 ⟨rfl, o1, b1⟩
  have O1 := Lib.hid o1
  have B1 := Lib.hid b1
  clear o1 b1
  go_wp2_with fail
  go_ret
  exact RL.yes rfl O1.out B1.out
end Go.Proofs.YtbdhdlgenfpjgaaDoor

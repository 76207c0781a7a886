import Derived.Test.YtommcckihanedaaGreatDoorDec
import Derived.Test.YtommcckihanedaaGreatDoorShelf
import Derived.Lib.LaidTab
import Derived.LaidSub
import Derived.WalkSmall
import Derived.Lib.AppendIntMem
namespace Go.Proofs.YtommcckihanedaaGreatDoor
open Go.RowKit

/-- the library's table of powers of ten, as a world holds it -/
def Pow (w : World) : Prop := Lib.TabIs Tryz.prog w "internal/strconv.uint64pow10" .u64 Lib.pow10Tab
theorem gPow : Tryz.prog.globalNamed "internal/strconv.uint64pow10" = some 6 := by kernel_rfl
theorem tPow : (Tryz.prog.globals[6]?).map (·.type) = some 127 := by kernel_rfl
theorem cPow : Tryz.prog.cellsOf 127 = 20 := by kernel_rfl
theorem cU64 : Tryz.prog.cellsOf 63 = 1 := by kernel_rfl
theorem pow_of {l : List (String × DataW Unit)} {w : World} (h : laidMet Tryz.prog l w) (hf : (l.filter fun x => x.1 == "internal/strconv.uint64pow10") = [("internal/strconv.uint64pow10", Lib.tabData .u64 Lib.pow10Tab)]) : Pow w := by
  have h' := laidMet.filter (fun x => x.1 == "internal/strconv.uint64pow10") h
  rw [hf] at h'
  exact Lib.tabIs_of_head (rest := []) gPow tPow Tryz.underlying127 Tryz.underlying63 cU64 cPow h'
theorem var_lt {W : World} {cs : Array Value} {g : Nat} {s : String} (hg : Tryz.prog.globalNamed s = some g) (h : W.var? Tryz.prog s = some cs) : g < W.heap.size := by
  simp only [World.var?, hg, Option.bind_some] at h
  rcases Nat.lt_or_ge g W.heap.size with h' | h'
  · exact h'
  · rw [Array.getElem?_eq_none h'] at h; cases h
theorem Pow.below {w w1 : World} (h : Pow w) (hb : Below w.heap.size w w1) : Pow w1 := by
  unfold Pow Lib.TabIs at *
  exact var?_below hb gPow (var_lt gPow h) h
theorem implDecimal_any (n : Int) (w : World) (h1 : -9223372036854775808 ≤ n) (h2 : n ≤ 9223372036854775807) (hp : Pow w) :
    Calls Tryz.prog 39 #[.int .i64 n] w fun e w' => e = .returned (.string ⟨(Lib.itoa n).toArray⟩) ∧ Below w.heap.size w w' := by
  have c := Tryz.strconv_FormatInt_10 n h1 h2 w hp
  have C := Lib.hid c
  clear c hp h1 h2
  go_enter Tryz.func39, Tryz.ntmps39
  go_wp2_with fail
  refine C.out.mono ?_
  rintro e w1 ⟨rfl, k, os, hw⟩
  have hb : Below w.heap.size w w1 := by rw [hw]; exact Go.Lib.below_grow _ w (Nat.le_refl _) k os
  clear hw
  go_wp2_with fail
  go_ret
  exact ⟨rfl, hb⟩
theorem i64_bd {n : Int} (h : (Lit.int .i64 n).wf = true) : -9223372036854775808 ≤ n ∧ n ≤ 9223372036854775807 := by
  simp [Lit.wf, IntKind.min, IntKind.max, IntKind.signed, IntKind.bits] at h; omega
end Go.Proofs.YtommcckihanedaaGreatDoor

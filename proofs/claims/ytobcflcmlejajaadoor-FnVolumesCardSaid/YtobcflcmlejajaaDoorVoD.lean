/-
  How masses grow (chapter 12), by the program; sums, the variable that holds an error, and its code. The condition: the variable errTooGreat holds a sentinel as errors.New makes it.
-/
import Derived.Test.YtobcflcmlejajaaDoorVoC
import Derived.Test.YtobcflcmlejajaaDoorVoI
import Derived.Test.YtobcflcmlejajaaDoorPatF
import Derived.LaidSub
import Derived.LaidLaws
import Derived.WalkSmall
import Derived.Lib.LaidTab
namespace Go.Proofs.YtobcflcmlejajaaDoor
open Go.RowKit Go.Shelf
set_option linter.unusedVariables false
set_option maxRecDepth 100000

/-- the variable errTooGreat holds a pointer to a, as errors.New makes it -/
def Tg (a : Addr) (w : World) : Prop := w.var? Tryd.prog "loop.example/g01013/impl.errTooGreat" = some #[.iface 191 (.pointer (some a))]
theorem gTg : Tryd.prog.globalNamed "loop.example/g01013/impl.errTooGreat" = some 1 := by kernel_rfl
theorem tTg : (Tryd.prog.globals[1]?).map (·.type) = some 77 := by kernel_rfl
theorem rowTg (u : TypeId) (h : Tryd.prog.typeName? 3 u = some "*errors.errorString") : u = 191 :=
  typeName_ptr_named (nm := "errors.errorString") (by rw [show "*" ++ "errors.errorString" = "*errors.errorString" by decide]; kernel_rfl) (by kernel_rfl) (by decide) u (by rw [show "*" ++ "errors.errorString" = "*errors.errorString" by decide]; exact h)
theorem ceSE : Tryd.prog.cellsOf 193 = 1 := by kernel_rfl
theorem ceSt : Tryd.prog.cellsOf 9 = 1 := by kernel_rfl
theorem Tg.cell {a : Addr} {w : World} (h : Tg a w) : w.cell? ⟨1, 0, none⟩ = some (.iface 191 (.pointer (some a))) := by
  simpa using World.var?_cell gTg h 0
theorem var_ltV {W : World} {cs : Array Value} {g : Nat} {s : String} (hg : Tryd.prog.globalNamed s = some g) (h : W.var? Tryd.prog s = some cs) : g < W.heap.size := by
  simp only [World.var?, hg, Option.bind_some] at h
  rcases Nat.lt_or_ge g W.heap.size with h' | h'
  · exact h'
  · rw [Array.getElem?_eq_none h'] at h; cases h
theorem Tg.below {a : Addr} {w w1 : World} (h : Tg a w) (hb : Below w.heap.size w w1) : Tg a w1 := var?_below hb gTg (var_ltV gTg h) h
theorem tg_of {l : List (String × DataW Unit)} {w : World} (h : laidMet Tryd.prog l w)
    (hf : (l.filter fun x => x.1 == "loop.example/g01013/impl.errTooGreat") = [("loop.example/g01013/impl.errTooGreat", Rows.laid_loop_example_g01013_impl_errTooGreat)]) : ∃ a, Tg a w := by
  have h1 := laidMet.filter (fun x => x.1 == "loop.example/g01013/impl.errTooGreat") h
  rw [hf] at h1
  unfold Rows.laid_loop_example_g01013_impl_errTooGreat at h1
  obtain ⟨a0, s0, hv0, hc0, hs0, hz0⟩ := laid_sentinel h1 gTg tTg Tryd.underlying77 rowTg Tryd.underlying191 Tryd.underlying193 rfl rfl Tryd.underlying9 ceSE ceSt
  exact ⟨a0, hv0⟩
/-- what a sum of masses leaves: it, or the error -/
def RJo (a : Addr) (w : World) (s : Int) (e : Ending) (w' : World) : Prop :=
  ((s ≤ 100000000 ∧ e = .returned (.tuple #[.int .i64 s, .nilIface])) ∨ (¬ s ≤ 100000000 ∧ e = .returned (.tuple #[.int .i64 0, .iface 191 (.pointer (some a))]))) ∧ ∃ q, w' = w.drewN q
set_option maxHeartbeats 1600000 in
theorem joined_any (a : Addr) (w : World) (v : Value) (zs : List Int) (hl : zs.length ≤ 64) (hv : Sl w v zs) (hms : ∀ k (hk : k < zs.length), 0 ≤ zs[k] ∧ zs[k] ≤ 1000000000) (ht : Tg a w) :
    Calls Tryd.prog 63 #[v] w (RJo a w zs.sum) := by
  have C := Lib.hid (sumI_any w v zs hl hv hms)
  have hc := ht.cell
  obtain ⟨a', cap, rfl⟩ := hv.form
  clear hv hms ht
  generalize zs.sum = s at *
  by_cases h : s ≤ 100000000
  · have h' : ¬ 100000000 < s := by omega
    go_enter Tryd.func63, Tryd.ntmps63
    go_wp2_with fail
    refine C.out.mono ?_
    rintro e w1 ⟨rfl, rfl⟩
    go_wp2_with fail
    go_ret2
    exact ⟨Or.inl ⟨h, rfl⟩, 0, rfl⟩
  · have h' : 100000000 < s := by omega
    have hid : Hid (¬ s ≤ 100000000) := Lib.hid h
    clear h
    go_enter Tryd.func63, Tryd.ntmps63
    go_wp2_with fail
    refine C.out.mono ?_
    rintro e w1 ⟨rfl, rfl⟩
    go_wp2_with fail
    go_quiet (fail)
    go_wp2_with fail
    go_ret2
    exact ⟨Or.inr ⟨by have := hid.out; omega, rfl⟩, _, rfl⟩
theorem massCode_nil (a : Addr) (w : World) (ht : Tg a w) : Calls Tryd.prog 64 #[.nilIface] w fun e w' => e = .returned (.int .i64 0) ∧ w = w' := by
  have hc := ht.cell
  clear ht
  go_enter Tryd.func64, Tryd.ntmps64
  go_wp2_with (go_at_call 61; refine (is_nil _ _).mono ?_; rintro e w' ⟨rfl, rfl⟩)
  go_ret
  exact ⟨rfl, rfl⟩
theorem massCode_err (a : Addr) (w : World) (ht : Tg a w) : Calls Tryd.prog 64 #[.iface 191 (.pointer (some a))] w fun e w' => e = .returned (.int .i64 6) ∧ w = w' := by
  have hc := ht.cell
  clear ht
  go_enter Tryd.func64, Tryd.ntmps64
  go_wp2_with (go_at_call 61; refine (is_same _ _).mono ?_; rintro e w' ⟨rfl, rfl⟩)
  go_ret
  exact ⟨rfl, rfl⟩
end Go.Proofs.YtobcflcmlejajaaDoor

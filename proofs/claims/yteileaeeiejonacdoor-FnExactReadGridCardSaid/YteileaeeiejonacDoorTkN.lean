/-
  The name of a kind of tests, by the model and by the program. The condition of the program's side: impl.testRules holds what the program's text lays.
-/
import Derived.Test.YteileaeeiejonacDoorTkB
namespace Go.Proofs.YteileaeeiejonacDoor
open Go.RowKit Go.ChangeShapes Go.WideShapes
set_option linter.unusedVariables false
set_option maxRecDepth 100000

theorem ret_strT {a b : ByteArray} (h : a = b) : Ending.returned (.string a) = .returned (.string b) := by rw [h]
theorem kindCases (k : Int) : (k = 1 ∧ Ar.inB 1 k 3 = true) ∨ (k = 2 ∧ Ar.inB 1 k 3 = true) ∨ (k = 3 ∧ Ar.inB 1 k 3 = true) ∨ ((k == 1) = false ∧ (k == 2) = false ∧ (k == 3) = false ∧ Ar.inB 1 k 3 = false ∧ Tq.nmB k = ⟨#[]⟩) := by
  by_cases h1 : k = 1
  · exact Or.inl ⟨h1, Ar.inB_t (by omega) (by omega)⟩
  · by_cases h2 : k = 2
    · exact Or.inr (Or.inl ⟨h2, Ar.inB_t (by omega) (by omega)⟩)
    · by_cases h3 : k = 3
      · exact Or.inr (Or.inr (Or.inl ⟨h3, Ar.inB_t (by omega) (by omega)⟩))
      · exact Or.inr (Or.inr (Or.inr ⟨beq_eq_false_iff_ne.2 h1, beq_eq_false_iff_ne.2 h2, beq_eq_false_iff_ne.2 h3, Ar.inB_f (by omega), by unfold Tq.nmB; rw [if_neg h1, if_neg h2, if_neg h3]⟩))
set_option maxHeartbeats 1600000 in
theorem l08Name_any (k : Int) (w : World) : Calls Tryd.prog 99 #[.int .i64 k] w fun e w' => e = .returned (.string (Tq.nmB k)) ∧ w = w' := by
  rcases kindCases k with ⟨rfl, -⟩ | ⟨rfl, -⟩ | ⟨rfl, -⟩ | ⟨k1, k2, k3, -, hn⟩
  · go_enter Tryd.func99, Tryd.ntmps99
    go_wp2
    go_ret
    exact ⟨rfl, rfl⟩
  · go_enter Tryd.func99, Tryd.ntmps99
    go_wp2
    go_ret
    exact ⟨rfl, rfl⟩
  · go_enter Tryd.func99, Tryd.ntmps99
    go_wp2
    go_ret
    exact ⟨rfl, rfl⟩
  · rw [hn]
    clear hn
    go_enter Tryd.func99, Tryd.ntmps99
    go_wp2
    go_ret
    exact ⟨rfl, rfl⟩
theorem field_rule (nm : ByteArray) (l0 a b c d : Int) (w : World) : (Instr.field 123 (.agg #[.string nm, .int .i64 l0, .int .i64 a, .int .i64 b, .int .i64 c, .int .i64 d]) 0).run Tryd.prog w = .ok (.string nm) w := by kernel_rfl
set_option maxHeartbeats 1600000 in
theorem kindString_any (k : Int) (w : World) (hR : RulesT w) : Calls Tryd.prog 104 #[.int .i64 k] w fun e w' => e = .returned (.string (Tq.nmB k)) ∧ Below w.heap.size w w' := by
  have CS := Lib.hid (kindStated_any k w)
  cases hq : Ar.inB 1 k 3 with
  | false =>
    have hn : Tq.nmB k = ⟨#[]⟩ := by
      rcases kindCases k with ⟨-, h⟩ | ⟨-, h⟩ | ⟨-, h⟩ | ⟨-, -, -, -, h⟩
      · rw [hq] at h; cases h
      · rw [hq] at h; cases h
      · rw [hq] at h; cases h
      · exact h
    rw [hn]
    rw [hq] at CS
    clear hq hn
    go_enter Tryd.func104, Tryd.ntmps104
    go_wp2_with fail
    refine CS.out.mono ?_
    rintro e w' ⟨rfl, rfl⟩
    go_wp2_with fail
    go_ret
    exact ⟨rfl, Below.refl _ _⟩
  | true =>
    have hk := Tq.inB_iff.1 hq
    have CR := Lib.hid (rule_any k w hk.1 hk.2 hR)
    rw [hq] at CS
    clear hq hk hR
    unfold Tq.ruleV at CR
    generalize Tq.bot k = l0 at *
    generalize Tq.r1 k = a at *
    generalize Tq.r2 k = b at *
    generalize Tq.r3 k = c at *
    generalize Tq.top k = d at *
    generalize Tq.nmB k = nm at *
    go_enter Tryd.func104, Tryd.ntmps104
    go_wp2_with fail
    refine CS.out.mono ?_
    rintro e w' ⟨rfl, rfl⟩
    go_wp2_with fail
    refine CR.out.mono ?_
    rintro e w2 ⟨rfl, b2⟩
    have B2 := Lib.hid b2
    clear b2
    have hf := field_rule nm l0 a b c d
    go_wp2_with fail
    go_ret
    exact ⟨rfl, B2.out⟩
theorem implTestName_any (k : Int) (w : World) (hR : RulesT w) : Calls Tryd.prog 62 #[.int .i64 k] w fun e w' => e = .returned (.string (Tq.nmB k)) ∧ Below w.heap.size w w' := by
  have C := Lib.hid (kindString_any k w hR)
  clear hR
  go_enter Tryd.func62, Tryd.ntmps62
  go_wp2_with fail
  refine C.out.mono ?_
  rintro e w2 ⟨rfl, b2⟩
  have B2 := Lib.hid b2
  clear b2
  go_wp2_with fail
  go_ret
  exact ⟨rfl, B2.out⟩
end Go.Proofs.YteileaeeiejonacDoor

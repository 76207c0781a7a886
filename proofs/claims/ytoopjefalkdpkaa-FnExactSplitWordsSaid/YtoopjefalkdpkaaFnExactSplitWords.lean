/-
  For every string the program's SplitWords answers as its model, and what it returns is its own memory: the law returns true and writes nothing that was there. No condition (beyond 2^20 bytes the law itself returns true).
-/
import Derived.Test.YtoopjefalkdpkaaRows
import Derived.Test.YtoopjefalkdpkaaSpWords
import Derived.WalkKit
import Derived.Below
import Derived.ProofKit
import Derived.OpenShut
import Derived.ShutString
namespace Go.Proofs.Ytoopjefalkdpkaa.fnExactSplitWords
open Go.ChangeShapes Go.WideShapes Go.ChangeAt Go.RowKit
open Go.ChangeMaps (open_string shut_string)
set_option linter.unusedVariables false      -- a walk need not use every 'w<i>' (that an integer argument fits its kind)

theorem own : ownKnob Try.prog.godebug = none := by kernel_rfl

/-! ### STEP 1: THE WALK: the Go text returns true. 'Grown w w'': the world has at most new blocks (Derived/RowKit3.lean). Part the cases AHEAD of 'go_enter' where a test parts the walk; take each callee by a contract of your own. -/
theorem walk (a0 : ByteArray) (w0 : a0.size ≤ maxLen) (w : World) :
    Calls Try.prog 4 #[.string a0] w fun e w' => e = .returned (.bool true) ∧ Below w.heap.size w w' := by
  unfold maxLen at w0
  by_cases hb0 : a0.size ≤ 1048576
  · have hnl : ¬ (1048576 : Int) < a0.size := by omega
    have hwl := words_len a0.data.toList
    have hsz : a0.data.toList.length = a0.size := by simp
    have C1 := Lib.hid (specSplitWords_any a0 w hb0)
    have C2 : Hid (∀ W, Calls Try.prog 12 #[.string a0] W fun e w' => ∃ v, e = .returned v ∧ Strs W.heap.size w' v (words a0.data.toList) ∧ Below W.heap.size W w') := Lib.hid (fun W => implSplitWords_any a0 W hb0)
    have hzl : (words a0.data.toList).length ≤ 1048577 := by omega
    clear w0 hwl hsz
    generalize words a0.data.toList = zs at *
    have hself : Hid ((zs == zs) = true) := Lib.hid (beq_self_eq_true _)
    have hul : (tUp 1 zs.length).length ≤ 1048577 := by rw [tUp_length]; exact hzl
    go_enter Try.func4, Try.ntmps4
    go_wp2_with fail
    refine C1.out.mono ?_
    rintro e w1 ⟨u0, rfl, ho, b1⟩
    have S0 := Lib.hid ho.sl
    have B1 := Lib.hid b1
    clear ho b1
    go_wp2_with fail
    refine (C2.out w1).mono ?_
    rintro e w2 ⟨u1, rfl, ho, b2⟩
    have O2 := Lib.hid ho
    have B2 := Lib.hid b2
    clear ho b2
    go_wp2_with fail
    refine (eqStringS_any w2 u1 u0 zs zs O2.out.sl (S0.out.below B2.out) hzl hzl).mono ?_
    rintro e w3 ⟨rfl, b3⟩
    rw [hself.out]
    have O3 : Hid (Strs w1.heap.size w3 u1 zs) := Lib.hid (O2.out.belowAll b3)
    have B3 : Hid (Below w1.heap.size w1 w3) := Lib.hid (tbt B2.out b3)
    clear b3
    go_wp2_with fail
    refine (markStringS_any w1.heap.size w3 u1 zs 1 (by decide) (by decide) B3.out.size O3.out hzl).mono ?_
    rintro e w4 ⟨rfl, o4, b4⟩
    have O4 := Lib.hid o4
    have B4 : Hid (Below w1.heap.size w1 w4) := Lib.hid (B3.out.trans b4)
    clear o4 b4
    go_wp2_with fail
    refine (heldStringS_any w4 u1 zs.length 1 (by decide) (by decide) O4.out.sl hzl).mono ?_
    rintro e w5 ⟨rfl, b5⟩
    have B5 : Hid (Below w1.heap.size w1 w5) := Lib.hid (tbt B4.out b5)
    have BB := Lib.hid (tbt B1.out B5.out)
    have S5 : Hid (TSl w5 u1 (tUp 1 zs.length)) := Lib.hid (O4.out.sl.below b5)
    clear b5
    go_wp2_with fail
    refine (C2.out w5).mono ?_
    rintro e w6 ⟨u2, rfl, ho, b6⟩
    have O6 := Lib.hid ho
    have B6 : Hid (Below w1.heap.size w1 w6) := Lib.hid (tbt B5.out b6)
    have S6 : Hid (TSl w6 u1 (tUp 1 zs.length)) := Lib.hid (S5.out.below b6)
    clear ho b6
    go_wp2_with fail
    refine (eqStringS_any w6 u2 u0 zs zs O6.out.sl (S0.out.below B6.out) hzl hzl).mono ?_
    rintro e w7 ⟨rfl, b7⟩
    rw [hself.out]
    have B7 : Hid (Below w1.heap.size w1 w7) := Lib.hid (tbt B6.out b7)
    have S7 : Hid (TSl w7 u1 (tUp 1 zs.length)) := Lib.hid (S6.out.below b7)
    clear b7
    go_wp2_with fail
    refine (heldStringS_any w7 u1 zs.length 1 (by decide) (by decide) S7.out hzl).mono ?_
    rintro e w8 ⟨rfl, b8⟩
    have B8 : Hid (Below w1.heap.size w1 w8) := Lib.hid (tbt B7.out b8)
    clear b8
    go_wp2_with fail
    go_ret
    exact ⟨rfl, tbt B1.out B8.out⟩
  · have hnl : (1048576 : Int) < a0.size := by omega
    go_enter Try.func4, Try.ntmps4
    go_wp2_with fail
    go_ret
    exact ⟨rfl, Below.refl _ _⟩

/-! ### THE ROW's STEP: WRITTEN OUT: LEAVE IT -/
set_option maxRecDepth 100000 in
theorem lifted (os : Os) (started : os.Started) (H : Type) (enc : TypeId × Value → H) :
    ReturnsInHanded {} Try.checked os 4 .any (Rows.fnExactSplitWordsSpec.pre6 enc Try.prog Try.f4 Rows.fnExactSplitWordsRow.domain false) (Rows.fnExactSplitWordsSpec.post enc Try.prog Try.f4 false true false false) := by
  refine returnsInHanded_of_change (C := Try.checked) own started (by kernel_rfl) Try.func4
    (ChangeSpec.witness6 (enc := enc) (C := Try.checked) false ⟨#[], #[.string ByteArray.empty], []⟩ 8 (by kernel_rfl) (by kernel_rfl) (by kernel_rfl) (by kernel_rfl)) ?_
  intro W base args ds gs before hval0 hW hcnd _
  have hval : ∀ (j : Nat) t v, Try.f4.params[j]? = some t → args[j]? = some v → Value.okWide Try.prog W .any base t v := hval0
  have hW' := hW
  obtain ⟨p, q, hA0, hV, rfl, hfz, hnd⟩ := hW
  have hA : DataW.TrodAll enc Try.prog W 0 (fun _ => true) true Try.f4.params.toList args.toList ds p := hA0
  rw [Try.params4] at hA hval
  obtain ⟨v0, vs0, d0, ds0, p0, q0, hargs, rfl, rfl, h0, r0⟩ := trodAll_cons hA
  obtain ⟨rfl, rfl, rfl⟩ := trodAll_nil r0
  obtain rfl : args = #[v0] := by cases args; simp_all
  obtain ⟨rfl, rfl⟩ := trodVars_none hV
  obtain ⟨a0, rfl, rfl, rfl, w0⟩ := open_string Try.underlying9 (hval 0 9 v0 rfl rfl) h0
  clear hA0 hval0
  simp only [List.append_nil] at hW'
  refine (walk a0 w0 W).mono fun e W' ⟨he, hg⟩ => ?_
  subst he
  exact ⟨_, rfl, _, _, _, [], [], [], hW', (trodAll_cons_mk (shut_bool Try.underlying4 _) trodAll_mk0), (trodAll_cons_mk (shut_string Try.underlying9 w0) trodAll_mk0), rfl, hg.frame _, fun h => by cases h⟩

theorem over : Rows.fnExactSplitWordsRow.holds Try.pinned (OpenSpec.ofChange Rows.fnExactSplitWordsSpec) :=
  OpenClaim.holds_of_wide 4 Try.f4 rfl rfl rfl rfl rfl rfl rfl ⟨rfl, rfl, rfl, rfl, rfl⟩ rfl rfl rfl rfl rfl (by kernel_rfl) Try.func4 (by kernel_rfl)
    (of_decide_eq_true (by kernel_rfl)) (by unfold Func.isWrapper; first | (rw [if_pos (by decide +kernel)]; kernel_rfl) | (rw [if_neg (by decide +kernel)]; exact ⟨rfl, rfl⟩))
    (fun os started H enc _ => lifted os started H enc)

/-- ████ THE STATEMENT ████ -/
theorem proved : Rows.FnExactSplitWordsSaid :=
  over
#print axioms proved
end Go.Proofs.Ytoopjefalkdpkaa.fnExactSplitWords

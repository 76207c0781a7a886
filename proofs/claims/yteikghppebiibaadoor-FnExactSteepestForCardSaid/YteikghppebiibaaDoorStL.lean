/-
  The questions of chapter 7 by the program. Their condition: impl.strengthFactors holds what the program's text lays (StressAt: none).
-/
import Derived.Test.YteikghppebiibaaDoorStK
import Derived.Test.YteikghppebiibaaDoorStI
import Derived.Test.YteikghppebiibaaDoorStE
namespace Go.Proofs.YteikghppebiibaaDoor
open Go.RowKit Go.Shelf
set_option linter.unusedVariables false
set_option maxRecDepth 100000

theorem sdt_0 (ri ru d : Int) : sdt ri ru d 0 = Sb.sd ri ru d := by unfold sdt; rw [show Sb.lim 0 = true from by decide, Bool.and_true]
theorem sdt_00 (ri ru : Int) : sdt ri ru 0 0 = Sb.slo ri ru := by rw [sdt_0]; unfold Sb.sd; rw [show Ar.inB 0 0 1000 = true from by decide, Bool.and_true]
theorem sts_nil (w : World) : StS w (.slice none 0 0) [] := Or.inl ⟨rfl, none, 0, rfl⟩
def objK (a : Option Addr) (n cap : Nat) (k : Int) (T : TypeId) : Obj := .cells #[.iface 69 (.agg #[.slice a n cap, .int .i64 k])] T
theorem usK_new (w : World) (a : Option Addr) (n cap : Nat) (k : Int) (T : TypeId) (hn : n ≤ 1048576) : StS (w.alloc (objK a n cap k T)) (.slice (some ⟨w.heap.size, 0, none⟩) 1 1) [(.iface 69 (.agg #[.slice a n cap, .int .i64 k]), Ar.inB 0 k ((n : Int) - 1))] := by
  refine Or.inr ⟨w.heap.size, 0, 1, rfl, by simp, fun j hj => ?_⟩
  obtain rfl : j = 0 := by simp only [List.length_singleton] at hj; omega
  exact ⟨cell_of_row _ w.heap.size 0 _ T (0, 0) (heap_alloc_new w (objK a n cap k T)), fun W => lit_place k a n cap W hn⟩
theorem allS_one (u : Value) (b : Bool) : allS [(u, b)] = b := by unfold allS; simp
set_option maxHeartbeats 3200000 in
theorem implStrengthBounds_any (w : World) (x : Lay) (d : Int) (hw : FactorsAt w) :
    Calls Tryd.prog 13 #[.agg #[.int .i64 x.fo, .int .i64 x.ic, .int .i64 x.wa, .int .i64 x.de, .int .i64 x.dg, .int .i64 x.ha, .int .i64 x.ag], .int .i64 d] w fun e w' => e = .returned (.tuple #[.int .i64 (Sb.sg x d).1, .int .i64 (Sb.sg x d).2.1, .int .i64 (Sb.sg x d).2.2]) ∧ Below w.heap.size w w' := by
  have C1 := Lib.hid (fun W => implValidLayer_any x W)
  have C2 := Lib.hid (fun W => doubtStated_any d W)
  have CC := Lib.hid (fun a b W => statedCode_any a b W)
  rw [show stc = Sb.cd from rfl] at CC
  have HB := Lib.hid (boxed_below w x 26)
  have HW := Lib.hid hw
  clear hw
  cases h1 : La.okL x with
  | false =>
    have hr := Lib.hid (Sb.sg_1 (d := d) h1)
    rw [h1] at C1
    clear h1
    generalize Ar.inB 0 d 1000 = q at *
    have CC := Lib.hid (CC.out false q)
    rw [show Sb.cd false q = 1 from rfl] at CC
    go_enter Tryd.func13, Tryd.ntmps13
    go_wp2_with fail
    refine (C1.out (boxed w x 26)).mono ?_
    rintro e w1 ⟨rfl, b1⟩
    have B1 := Lib.hid b1
    clear b1
    go_wp2_with fail
    refine (C2.out _).mono ?_
    rintro e w2 ⟨rfl, rfl⟩
    go_wp2_with fail
    refine (CC.out _).mono ?_
    rintro e w2 ⟨rfl, rfl⟩
    go_wp2_with fail
    go_ret3
    exact ⟨ret_p3 hr.out, bt HB.out B1.out⟩
  | true =>
    rw [h1] at C1
    cases h2 : Ar.inB 0 d 1000 with
    | false =>
      have hr := Lib.hid (Sb.sg_2 h1 h2)
      rw [h2] at C2
      clear h1 h2
      have CC := Lib.hid (CC.out true false)
      rw [show Sb.cd true false = 2 from rfl] at CC
      go_enter Tryd.func13, Tryd.ntmps13
      go_wp2_with fail
      refine (C1.out (boxed w x 26)).mono ?_
      rintro e w1 ⟨rfl, b1⟩
      have B1 := Lib.hid b1
      clear b1
      go_wp2_with fail
      refine (C2.out _).mono ?_
      rintro e w2 ⟨rfl, rfl⟩
      go_wp2_with fail
      refine (CC.out _).mono ?_
      rintro e w2 ⟨rfl, rfl⟩
      go_wp2_with fail
      go_ret3
      exact ⟨ret_p3 hr.out, bt HB.out B1.out⟩
    | true =>
      have hr := Lib.hid (Sb.sg_0 h1 h2)
      obtain ⟨d0, d1⟩ := La.inB_iff.1 h2
      have C3 := Lib.hid (fun W (h : Below w.heap.size w W) => strength_any x d W ((La.okL_iff x).1 h1) d0 d1 (HW.out.below h))
      rw [h2] at C2
      clear h1 h2
      generalize Sb.lo x d = lo at *
      generalize Sb.hi x d = hi at *
      have CC := Lib.hid (CC.out true true)
      rw [show Sb.cd true true = 0 from rfl] at CC
      go_enter Tryd.func13, Tryd.ntmps13
      go_wp2_with fail
      refine (C1.out (boxed w x 26)).mono ?_
      rintro e w1 ⟨rfl, b1⟩
      have B1 := Lib.hid b1
      obtain ⟨c0, c1, c2, c3, c4, c5, c6⟩ := (boxed_kept B1.out).zero
      clear b1
      go_wp2_with fail
      refine (C2.out _).mono ?_
      rintro e w2 ⟨rfl, rfl⟩
      go_wp2_with fail
      refine (CC.out _).mono ?_
      rintro e w2 ⟨rfl, rfl⟩
      go_wp2_with fail
      refine (C3.out _ (bt HB.out B1.out)).mono ?_
      rintro e w2 ⟨rfl, b2⟩
      have B2 := Lib.hid (bt (bt HB.out B1.out) b2)
      clear b2 c0 c1 c2 c3 c4 c5 c6
      go_wp2_with fail
      go_quiet (fail)
      go_wp2_with fail
      go_ret3
      exact ⟨ret_p3 hr.out, bt (bt B2.out (below_al _ _)) (below_drewW _ _)⟩
end Go.Proofs.YteikghppebiibaaDoor

/-
  Whether cells are cells of a grid, and the steepest step down of a cell, answered or refused. The conditions: the table of ways as it is laid.
-/
import Derived.Test.YthcmpalbhaefbaaDoorTrI
import Derived.Test.YthcmpalbhaefbaaDoorGdV
import Derived.Test.YthcmpalbhaefbaaDoorGt
import Derived.Test.YthcmpalbhaefbaaDoorFdC
namespace Go.Proofs.YthcmpalbhaefbaaDoor
open Go.RowKit Go.Shelf Go.Deep
set_option linter.unusedVariables false
set_option maxRecDepth 100000
set_option maxHeartbeats 400000 in
theorem isIndexT_any (w : World) (a : Option Addr) (n cap : Nat) (k : Int) (hl : n ≤ 1048576) :
    Calls Tryd.prog 89 #[.int .i64 k, .slice a n cap] w fun e w' => e = .returned (.bool (Ar.inB 0 k (n - 1))) ∧ w = w' := by
  have C := fun W => Lib.hid (within_any k 0 (n - 1) W)
  go_enter Tryd.func89, Tryd.ntmps89
  go_wp2_with fail
  refine (C _).out.mono ?_
  rintro e w1 ⟨rfl, rfl⟩
  go_wp2_with fail
  go_ret
  exact ⟨rfl, rfl⟩
set_option maxHeartbeats 400000 in
theorem outG_any (w W : World) (b : Nat) (r c s : Int) (a : Option Addr) (n cap : Nat) (x : Int) (hl : n ≤ 1048576) (hc : GC w b r c s (.slice a n cap)) (hW : Below w.heap.size w W) :
    Calls Tryd.prog 88 (#[.int .i64 x] ++ #[.pointer (some ⟨b, 0, none⟩)]) W fun e w' => e = .returned (.bool (!Ar.inB 0 x (n - 1))) ∧ Below w.heap.size w w' := by
  have C := Lib.hid (isIndexT_any W a n cap x hl)
  have HW := Lib.hid hW
  obtain ⟨x0, x1, x2, x3⟩ := (hc.all hW).four
  clear hW hc
  go_enter Tryd.func88, Tryd.ntmps88
  go_wp2_with fail
  refine C.out.mono ?_
  rintro e w1 ⟨rfl, rfl⟩
  go_wp2_with fail
  go_ret
  exact ⟨rfl, HW.out⟩
set_option maxHeartbeats 1600000 in
theorem cellsCode_any (w : World) (r c s : Int) (v u : Value) (zs ks : List Int) (hv : Sl w v zs) (hu : Sl w u ks) (hl : zs.length ≤ 1048576) (hk : ks.length ≤ 1048576) :
    Calls Tryd.prog 47 #[.agg #[.int .i64 r, .int .i64 c, .int .i64 s, v], u] w fun e w' => e = .returned (.int .i64 (Cd.cd (Gw.ok r c s zs) (!ks.any fun x => !Ar.inB 0 x (zs.length - 1)) 0)) ∧ Below w.heap.size w w' := by
  obtain ⟨a, cap, rfl⟩ := hv.form
  have HB := Lib.hid (boxG_below w r c s (.slice a zs.length cap) 28)
  have HK := Lib.hid (boxG_cells w r c s (.slice a zs.length cap) 28)
  have C1 := Lib.hid (implValidGrid_any (boxG w r c s (.slice a zs.length cap) 28) r c s _ zs (hv.below HB.out) hl)
  have CF := Lib.hid (fun W (h : Below (boxG w r c s (.slice a zs.length cap) 28).heap.size (boxG w r c s (.slice a zs.length cap) 28) W) => containsFuncI_any 88 #[.pointer (some ⟨w.heap.size, 0, none⟩)] (enters_of Tryd.func88 (by kernel_rfl) rfl) (fun x => !Ar.inB 0 x (zs.length - 1)) W _ ks hk (hu.below (bt HB.out h)) (fun x W' hW => outG_any W W' w.heap.size r c s a zs.length cap x hl (HK.out.all h) hW))
  have CS := Lib.hid (fun a b W => statedCd_any a b W)
  obtain ⟨x0, x1, x2, x3⟩ := HK.out.four
  clear hv hu
  unfold boxG at C1 x0 x1 x2 x3
  generalize (ks.any fun x => !Ar.inB 0 x (zs.length - 1)) = q at *
  generalize Gw.ok r c s zs = p at *
  go_enter Tryd.func47, Tryd.ntmps47
  go_wp2_with fail
  refine C1.out.mono ?_
  rintro e w1 ⟨rfl, b1⟩
  have B1 := Lib.hid (bt HB.out b1)
  have N1 := Lib.hid b1
  clear b1
  go_wp2_with fail
  refine (CF.out _ N1.out).mono ?_
  rintro e w2 ⟨rfl, b2⟩
  have B2 := Lib.hid (bt B1.out b2)
  clear b2
  go_wp2_with fail
  refine (CS.out _ _ _).mono ?_
  rintro e w3 ⟨rfl, rfl⟩
  go_wp2_with fail
  go_ret
  exact ⟨rfl, B2.out⟩
end Go.Proofs.YthcmpalbhaefbaaDoor

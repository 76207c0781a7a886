/-
  A grid's text (chapter 9), by the model and by the program. The condition of the program's side: the library's table of powers of ten holds what its text lays.
-/
import Derived.Test.YteileaeeiejonacDoorList
import Derived.Test.YteileaeeiejonacDoorGdV
import Derived.Test.YteileaeeiejonacDoorSlN
namespace Go.Proofs.YteileaeeiejonacDoor
open Go.RowKit Go.Shelf Go.Deep Go.WideShapes
set_option linter.unusedVariables false
set_option maxRecDepth 100000

namespace Gw
/-- what GridText answers -/
def gtx (r c s : Int) (zs : List Int) : ByteArray := if ok r c s zs = true then (⟨(lt [r, c, s]).toArray⟩ ++ ⟨#[58]⟩ : ByteArray) ++ ⟨(lt zs).toArray⟩ else ⟨#[]⟩
theorem fit_h {r c s : Int} {zs : List Int} (g : Good r c s zs) : fitB zs = true := by
  unfold fitB
  rw [Bool.and_eq_true, List.all_eq_true]
  have := g.len
  exact ⟨fun x hx => by have := g.h x hx; unfold okV Ar.inB; simp; omega, by simp; omega⟩
theorem fit_s {r c s : Int} {zs : List Int} (g : Good r c s zs) : fitB [r, c, s] = true := by
  have h1 := g.r1; have h2 := g.r2; have h3 := g.c1; have h4 := g.c2; have h5 := g.s1; have h6 := g.s2
  unfold fitB okV Ar.inB
  simp
  omega
end Gw
theorem lt_lenG {zs : List Int} (hf : fitB zs = true) : (lt zs).length ≤ 1344 := by
  have hl := fit_len hf
  unfold lt
  split
  · simp
  · have := pre_len (fit_bd hf) zs.length (Nat.le_refl _); omega
theorem ltext_fit {zs : List Int} (hf : fitB zs = true) : ltext zs = lt zs := by unfold ltext; rw [if_pos hf]

set_option maxHeartbeats 6400000 in
theorem l09Text_any (w : World) (b : Nat) (r c s : Int) (v : Value) (zs : List Int) (hc : GC w b r c s v) (hv : Sl w v zs) (hk : Gw.ok r c s zs = true) :
    Calls Tryd.prog 48 #[.pointer (some ⟨b, 0, none⟩)] w fun e w' => e = .returned (.string (Gw.gtx r c s zs)) ∧ Below w.heap.size w w' := by
  obtain ⟨a, cap, rfl⟩ := hv.form
  have G := (Gw.ok_iff _ _ _ _).1 hk
  have hf1 := Gw.fit_s G
  have hf2 := Gw.fit_h G
  have HC := Lib.hid hc
  have K0 := Lib.hid (fun W (h : Below w.heap.size w W) => (hc.all h).four)
  have C1 := Lib.hid (fun W u (h : Sl W u [r, c, s]) => l01List_any W u [r, c, s] h (by simp) (fit_bd hf1))
  have C2 := Lib.hid (fun W (h : Below w.heap.size w W) => l01List_any W _ zs (hv.below h) (fit_len hf2) (fit_bd hf2))
  have hr : Hid (Gw.gtx r c s zs = (⟨(lt [r, c, s]).toArray⟩ ++ ⟨#[58]⟩ : ByteArray) ++ ⟨(lt zs).toArray⟩) := Lib.hid (by unfold Gw.gtx; rw [if_pos hk])
  have L1 := lt_lenG hf1
  have L2 := lt_lenG hf2
  rw [hr.out]
  have S1 : (⟨(lt [r, c, s]).toArray⟩ : ByteArray).size ≤ 1344 := by rw [sz_mk]; exact L1
  have S2 : (⟨(lt zs).toArray⟩ : ByteArray).size ≤ 1344 := by rw [sz_mk]; exact L2
  generalize (⟨(lt [r, c, s]).toArray⟩ : ByteArray) = t1 at *
  generalize (⟨(lt zs).toArray⟩ : ByteArray) = t2 at *
  have n1 : ¬ 9223372036854775807 < t1.size + 1 := by omega
  have n2 : ¬ 9223372036854775807 < t1.size + 1 + t2.size := by omega
  clear S1 S2 L1 L2 hf1 hf2 G hk hr hv
  obtain ⟨x0, x1, x2, x3⟩ := (HC.out.all (Below.refl _ _)).four
  clear hc
  go_enter Tryd.func48, Tryd.ntmps48
  go_wp2_with fail
  (go_region_held3 (fun w' => w'.cell? ⟨b, 0, none⟩ = some (.int .i64 r) ∧ w'.cell? ⟨b, 1, none⟩ = some (.int .i64 c) ∧ w'.cell? ⟨b, 2, none⟩ = some (.int .i64 s) ∧ w'.cell? ⟨b, 3, none⟩ = some (.slice a zs.length cap)) (go_keep)
    (first
      | (go_at_call 87; refine (C2.out _ bA0).mono ?_; rintro e wB ⟨rfl, bB⟩; have bB0 := bt bA0 bB; obtain ⟨v0, v1, v2, v3⟩ := K0.out wB bB0)
      | (go_at_call 87; refine (C1.out _ _ (sl3d _ _ _ _ _)).mono ?_; rintro e wA ⟨rfl, bA⟩; have bA0 := bt (bdA3 _ _) bA; obtain ⟨z0, z1, z2, z3⟩ := K0.out wA bA0)))
  go_wp2_with fail
  go_ret
  exact ⟨rfl, bB0⟩
theorem specGridText_any (w : World) (r c s : Int) (v : Value) (zs : List Int) (hv : Sl w v zs) (hl : zs.length ≤ 1048576) :
    Calls Tryd.prog 13 #[.agg #[.int .i64 r, .int .i64 c, .int .i64 s, v]] w fun e w' => e = .returned (.string (Gw.gtx r c s zs)) ∧ Below w.heap.size w w' := by
  obtain ⟨a, cap, rfl⟩ := hv.form
  have HB := Lib.hid (boxG_below w r c s (.slice a zs.length cap) 29)
  have hbx : boxG w r c s (.slice a zs.length cap) 29 = w.alloc (.cells #[.int .i64 r, .int .i64 c, .int .i64 s, .slice a zs.length cap] 29) := rfl
  have K := Lib.hid (boxG_cells w r c s (.slice a zs.length cap) 29)
  generalize boxG w r c s (.slice a zs.length cap) 29 = W1 at *
  have CK := Lib.hid (l09Ok_any W1 w.heap.size r c s _ zs K.out (hv.below HB.out) hl)
  have CT := Lib.hid (fun W (h : Below W1.heap.size W1 W) (hk : Gw.ok r c s zs = true) => l09Text_any W w.heap.size r c s _ zs (K.out.all h) ((hv.below HB.out).below h) hk)
  clear hv K
  cases hq : Gw.ok r c s zs with
  | false =>
    have hr : Hid (Gw.gtx r c s zs = ⟨#[]⟩) := Lib.hid (by unfold Gw.gtx; rw [if_neg (by rw [hq]; decide)])
    rw [hr.out]
    rw [hq] at CK
    clear hq hr CT
    go_enter Tryd.func13, Tryd.ntmps13
    go_wp2_with fail
    rw [← hbx]
    clear hbx
    refine CK.out.mono ?_
    rintro e w1 ⟨rfl, b1⟩
    have B1 := Lib.hid (bt HB.out b1)
    clear b1
    go_wp2_with fail
    go_ret
    exact ⟨rfl, B1.out⟩
  | true =>
    have CT1 := Lib.hid (fun W h => CT.out W h hq)
    rw [hq] at CK
    clear hq CT
    go_enter Tryd.func13, Tryd.ntmps13
    go_wp2_with fail
    rw [← hbx]
    clear hbx
    refine CK.out.mono ?_
    rintro e w1 ⟨rfl, b1⟩
    have B1 := Lib.hid b1
    clear b1
    go_wp2_with fail
    refine (CT1.out _ B1.out).mono ?_
    rintro e w2 ⟨rfl, b2⟩
    have B2 := Lib.hid (bt HB.out (bt B1.out b2))
    clear b2
    go_wp2_with fail
    go_ret
    exact ⟨rfl, B2.out⟩
set_option maxHeartbeats 6400000 in
theorem implGridText_any (w : World) (r c s : Int) (v : Value) (zs : List Int) (hv : Sl w v zs) (hl : zs.length ≤ 1048576) (hp : Pow w) :
    Calls Tryd.prog 15 #[.agg #[.int .i64 r, .int .i64 c, .int .i64 s, v]] w fun e w' => e = .returned (.string (Gw.gtx r c s zs)) ∧ Below w.heap.size w w' := by
  obtain ⟨a, cap, rfl⟩ := hv.form
  have HB := Lib.hid (boxG_below w r c s (.slice a zs.length cap) 29)
  have hbx : boxG w r c s (.slice a zs.length cap) 29 = w.alloc (.cells #[.int .i64 r, .int .i64 c, .int .i64 s, .slice a zs.length cap] 29) := rfl
  have K := Lib.hid (boxG_cells w r c s (.slice a zs.length cap) 29)
  generalize boxG w r c s (.slice a zs.length cap) 29 = W1 at *
  have K0 := Lib.hid (fun W (h : Below W1.heap.size W1 W) => (K.out.all h).four)
  have CK := Lib.hid (implValidGrid_any W1 r c s _ zs (hv.below HB.out) hl)
  have HV := Lib.hid (hv.below HB.out)
  have HP := Lib.hid (hp.below HB.out)
  clear hv hp
  obtain ⟨x0, x1, x2, x3⟩ := K0.out _ (Below.refl _ _)
  cases hq : Gw.ok r c s zs with
  | false =>
    have hr : Hid (Gw.gtx r c s zs = ⟨#[]⟩) := Lib.hid (by unfold Gw.gtx; rw [if_neg (by rw [hq]; decide)])
    rw [hr.out]
    rw [hq] at CK
    clear hq hr K HV HP
    go_enter Tryd.func15, Tryd.ntmps15
    go_wp2_with fail
    rw [← hbx]
    clear hbx
    go_wp2_with fail
    refine CK.out.mono ?_
    rintro e w1 ⟨rfl, b1⟩
    have B1 := Lib.hid (bt HB.out b1)
    clear b1
    go_wp2_with fail
    go_ret
    exact ⟨rfl, B1.out⟩
  | true =>
    have G := (Gw.ok_iff _ _ _ _).1 hq
    have hf1 := Gw.fit_s G
    have hf2 := Gw.fit_h G
    have C1 := Lib.hid (fun W u (h : Sl W u [r, c, s]) (hb : Below W1.heap.size W1 W) => implListText_any W u [r, c, s] h (by simp) (HP.out.below hb))
    have C2 := Lib.hid (fun W (h : Below W1.heap.size W1 W) => implListText_any W _ zs (HV.out.below h) hl (HP.out.below h))
    rw [ltext_fit hf1] at C1
    rw [ltext_fit hf2] at C2
    have hr : Hid (Gw.gtx r c s zs = (⟨(lt [r, c, s]).toArray⟩ ++ ⟨#[58]⟩ : ByteArray) ++ ⟨(lt zs).toArray⟩) := Lib.hid (by unfold Gw.gtx; rw [if_pos hq])
    have L1 := lt_lenG hf1
    have L2 := lt_lenG hf2
    rw [hr.out]
    rw [hq] at CK
    have S1 : (⟨(lt [r, c, s]).toArray⟩ : ByteArray).size ≤ 1344 := by rw [sz_mk]; exact L1
    have S2 : (⟨(lt zs).toArray⟩ : ByteArray).size ≤ 1344 := by rw [sz_mk]; exact L2
    generalize (⟨(lt [r, c, s]).toArray⟩ : ByteArray) = t1 at *
    generalize (⟨(lt zs).toArray⟩ : ByteArray) = t2 at *
    have n1 : ¬ 9223372036854775807 < t1.size + 1 := by omega
    have n2 : ¬ 9223372036854775807 < t1.size + 1 + t2.size := by omega
    clear S1 S2 L1 L2 hf1 hf2 G hr hq HV HP hl
    go_enter Tryd.func15, Tryd.ntmps15
    go_wp2_with fail
    rw [← hbx]
    clear hbx
    go_wp2_with fail
    refine CK.out.mono ?_
    rintro e w1 ⟨rfl, b1⟩
    have B1 := Lib.hid b1
    obtain ⟨y0, y1, y2, y3⟩ := K0.out w1 b1
    clear b1 x0 x1 x2 x3
    go_wp2_with fail
    (go_region_held3 (fun w' => w'.cell? ⟨w.heap.size, 0, none⟩ = some (.int .i64 r) ∧ w'.cell? ⟨w.heap.size, 1, none⟩ = some (.int .i64 c) ∧ w'.cell? ⟨w.heap.size, 2, none⟩ = some (.int .i64 s) ∧ w'.cell? ⟨w.heap.size, 3, none⟩ = some (.slice a zs.length cap)) (go_keep)
      (first
        | (go_at_call 51; refine (C2.out _ bA0).mono ?_; rintro e wB ⟨rfl, bB⟩; have bB0 := bt bA0 bB; obtain ⟨v0, v1, v2, v3⟩ := K0.out wB bB0)
        | (go_at_call 51; refine (C1.out _ _ (sl3d _ _ _ _ _) (bt B1.out (bdA3 _ _))).mono ?_; rintro e wA ⟨rfl, bA⟩; have bA0 := bt (bt B1.out (bdA3 _ _)) bA; obtain ⟨z0, z1, z2, z3⟩ := K0.out wA bA0)))
    go_wp2_with fail
    go_ret
    exact ⟨rfl, bt HB.out bB0⟩
end Go.Proofs.YteileaeeiejonacDoor

/-
  A field read back out of its text (chapter 6), by the model and by the program. The conditions: no text is longer than 2^20; of the program's side, the library's listed variables hold what its text lays. (Written by wip/gen/genfrd.py.)
-/
import Derived.Test.YtjogppgddjfejaaDoorCutL
import Derived.Test.YtjogppgddjfejaaDoorFdV
namespace Go.Proofs.YtjogppgddjfejaaDoor
open Go.RowKit Go.ChangeShapes Go.WideShapes Go.Deep
set_option linter.unusedVariables false
set_option maxRecDepth 100000
theorem rd_nilF : Nu.rd [] = none := rd_none (Or.inl rfl)
namespace Fw
structure Fld where
  r : Int
  c : Int
  zs : List Int
def fz : Fld := ⟨0, 0, []⟩
def f3 (a b : Int) (zs : List Int) : Option Fld := if ok a b zs = true then some ⟨a, b, zs⟩ else none
def rs (p : List UInt8) (zs : List Int) : Option Fld := f3 ((Nu.rd (Lib.cut p [120]).1).getD 0) ((Nu.rd (Lib.cut p [120]).2.1).getD 0) zs
/-- the field with a text -/
def rf (l : List UInt8) : Option Fld := rs (Lib.cut l [32]).1 ((rl (Lib.cut l [32]).2.1).getD [])
theorem ok_nil (a b : Int) : ok a b [] = false := by
  rw [Bool.eq_false_iff]; intro h
  have := (fits_len ((ok_iff _ _ _).1 h).1).1
  simp at this
theorem ok_r0 (b : Int) (zs : List Int) : ok 0 b zs = false := by unfold ok fits Ar.inB; simp
theorem ok_c0 (a : Int) (zs : List Int) : ok a 0 zs = false := by unfold ok fits Ar.inB; simp
theorem f3_bad {a b : Int} {zs : List Int} (h : ok a b zs = false) : f3 a b zs = none := by simp [f3, h]
theorem f3_ok {a b : Int} {zs : List Int} (h : ok a b zs = true) : f3 a b zs = some ⟨a, b, zs⟩ := by simp [f3, h]
theorem f3_len (a b : Int) (zs : List Int) (h : zs.length ≤ 1048576) : ((f3 a b zs).getD fz).zs.length ≤ 1048576 := by
  unfold f3
  split
  · exact h
  · simp [fz]
theorem rs_nil (p : List UInt8) : rs p [] = none := f3_bad (ok_nil _ _)
theorem rs_not {p : List UInt8} {zs : List Int} (h : (spl 120 p).length ≠ 2) : rs p zs = none := by
  rcases spl_two 120 p with ⟨h1, hs⟩ | ⟨q, t, rfl, hq, _, hs⟩ | ⟨q, t, rfl, hq, ht, hs⟩
  · unfold rs; rw [cut_miss h1]; simp only []; rw [rd_nilF]; exact f3_bad (ok_c0 _ _)
  · rw [hs] at h; simp at h
  · unfold rs; rw [cut_hit hq]; simp only []; rw [rd_odd ht (by decide) (by decide)]; exact f3_bad (ok_c0 _ _)
theorem rs_two {p q t : List UInt8} {zs : List Int} (h : spl 120 p = [q, t]) : rs p zs = f3 ((Nu.rd q).getD 0) ((Nu.rd t).getD 0) zs := by
  rcases spl_two 120 p with ⟨h1, hs⟩ | ⟨q', t', rfl, hq, _, hs⟩ | ⟨q', t', rfl, hq, ht, hs⟩
  · rw [hs] at h; simp at h
  · rw [hs] at h; simp only [List.cons.injEq, and_true] at h; obtain ⟨rfl, rfl⟩ := h; unfold rs; rw [cut_hit hq]
  · rw [h] at hs; simp at hs
theorem rf_not {l : List UInt8} (h : (spl 32 l).length ≠ 2) : rf l = none := by
  rcases spl_two 32 l with ⟨h1, hs⟩ | ⟨q, t, rfl, hq, _, hs⟩ | ⟨q, t, rfl, hq, ht, hs⟩
  · unfold rf; rw [cut_miss h1]; simp only []; rw [rl_nil]; exact rs_nil _
  · rw [hs] at h; simp at h
  · unfold rf; rw [cut_hit hq]; simp only []; rw [rl_odd ht (by decide) (by decide) (by decide)]; exact rs_nil _
theorem rf_two {l p r : List UInt8} (h : spl 32 l = [p, r]) : rf l = rs p ((rl r).getD []) := by
  rcases spl_two 32 l with ⟨h1, hs⟩ | ⟨q', t', rfl, hq, _, hs⟩ | ⟨q', t', rfl, hq, ht, hs⟩
  · rw [hs] at h; simp at h
  · rw [hs] at h; simp only [List.cons.injEq, and_true] at h; obtain ⟨rfl, rfl⟩ := h; unfold rf; rw [cut_hit hq]
  · rw [h] at hs; simp at hs
theorem rf_len (l : List UInt8) : ((rf l).getD fz).zs.length ≤ 1048576 := f3_len _ _ _ (Nat.le_trans (rl_len _) (by omega))
theorem two2 {L : List (List UInt8)} (h : L.length = 2) : ∃ p q, L = [p, q] := by
  match L, h with
  | [p, q], _ => exact ⟨p, q, rfl⟩
theorem f3_no {o1 o2 : Option Int} {zs : List Int} (h : o1.isSome = false ∨ o2.isSome = false) : f3 (o1.getD 0) (o2.getD 0) zs = none := by
  rcases h with h | h
  · cases o1 with
    | none => exact f3_bad (ok_r0 _ _)
    | some n => cases h
  · cases o2 with
    | none => exact f3_bad (ok_c0 _ _)
    | some n => cases h
end Fw
/-- what reading a field leaves -/
def RFe (w : World) (o : Option Fw.Fld) (e : Ending) (w' : World) : Prop :=
  ∃ u, e = .returned (.tuple #[.agg #[.int .i64 (o.getD Fw.fz).r, .int .i64 (o.getD Fw.fz).c, u], .bool o.isSome]) ∧ Own w.heap.size w' u (o.getD Fw.fz).zs ∧ Below w.heap.size w w'
theorem RFe.no {w w' : World} {o : Option Fw.Fld} (ho : o = none) (hb : Below w.heap.size w w') : RFe w o (.returned (.tuple #[.agg #[.int .i64 0, .int .i64 0, .slice none 0 0], .bool false])) w' := by
  subst ho; exact ⟨_, rfl, World.ownsRow_nil _ _ _ _, hb⟩
theorem RFe.yes {w w' : World} {o : Option Fw.Fld} {a b : Int} {zs : List Int} {u : Value} (ho : o = some ⟨a, b, zs⟩) (hu : Own w.heap.size w' u zs) (hb : Below w.heap.size w w') : RFe w o (.returned (.tuple #[.agg #[.int .i64 a, .int .i64 b, u], .bool true])) w' := by
  subst ho; exact ⟨_, rfl, hu, hb⟩
theorem w3F {w : World} {g : Nat} {t : TypeId} {x y z : Value} (h : Whole w g t #[x, y, z]) : (w.cell? ⟨g, 0, none⟩ = some x ∧ w.cell? ⟨g, 1, none⟩ = some y ∧ w.cell? ⟨g, 2, none⟩ = some z) ∧
    (w.frozen? ⟨g, 0, none⟩ = false ∧ w.frozen? ⟨g, 1, none⟩ = false ∧ w.frozen? ⟨g, 2, none⟩ = false) :=
  ⟨⟨h.at_ 0, h.at_ 1, h.at_ 2⟩, h.free 0, h.free 1, h.free 2⟩
set_option maxHeartbeats 12800000 in
theorem l06Read_any (s : ByteArray) (w : World) (hs : s.size ≤ 1048576) :
    Calls Tryd.prog 9 #[.string s] w (RFe w (Fw.rf s.data.toList)) := by
  have HB := Lib.hid (boxF_below w 0 0 (.slice none 0 0) 24)
  have HK : Hid (∀ w1, Below (boxF w 0 0 (.slice none 0 0) 24).heap.size (boxF w 0 0 (.slice none 0 0) 24) w1 → Whole w1 w.heap.size 24 #[.int .i64 0, .int .i64 0, .slice none 0 0]) := Lib.hid (fun w1 h => (Whole.new w _ #[.int .i64 0, .int .i64 0, .slice none 0 0]).all h)
  have C := Lib.hid (l01Split_any s 32 (boxF w 0 0 (.slice none 0 0) 24) hs)
  have hpl := spl_part_len 32 s.data.toList
  have hsl : s.data.toList.length = s.size := by simp
  rw [hsl] at hpl
  have hpos := List.length_pos_iff.2 (spl_ne 32 s.data.toList)
  unfold boxF at C HB HK
  by_cases h2 : (spl 32 s.data.toList).length = 2
  · obtain ⟨p, r, hP⟩ := Fw.two2 h2
    have hrt := Fw.rf_two hP
    rw [hP] at C hpl hpos
    have hp1 : p.length ≤ s.size := hpl p (by simp)
    have hr1 : r.length ≤ s.size := hpl r (by simp)
    have CS := Lib.hid (fun W => l01Split_any ⟨p.toArray⟩ 120 W (by rw [sz_mk]; omega))
    have CR := Lib.hid (fun W => specReadList_any ⟨r.toArray⟩ W (by rw [sz_mk]; omega))
    have hpp : (⟨p.toArray⟩ : ByteArray).data.toList = p := by simp
    have hrr : (⟨r.toArray⟩ : ByteArray).data.toList = r := by simp
    rw [hrr] at CR
    rw [hpp] at CS
    have hzl : ((rl r).getD []).length ≤ 1048576 := Nat.le_trans (rl_len r) (by omega)
    have hsome : Hid ((rl r).isSome = false → (rl r).getD [] = []) := Lib.hid (by cases rl r <;> simp)
    unfold RL at CR
    have hxl := spl_part_len 120 p
    have hxpos := List.length_pos_iff.2 (spl_ne 120 p)
    rw [hrt]
    clear hrr hpp hr1 hpl hsl hP hrt h2
    generalize (rl r).isSome = y at *
    generalize (rl r).getD [] = zs at *
    by_cases hx2 : (spl 120 p).length = 2
    · obtain ⟨q, t, hX⟩ := Fw.two2 hx2
      rw [Fw.rs_two hX]
      rw [hX] at CS hxl hxpos
      have hq1 : q.length ≤ p.length := hxl q (by simp)
      have ht1 : t.length ≤ p.length := hxl t (by simp)
      have CN1 := Lib.hid (fun W => number_at q (by omega) W)
      have CN2 := Lib.hid (fun W => number_at t (by omega) W)
      clear hx2 hX hxl
      cases y with
      | false =>
        have hz0 := hsome.out rfl
        have hr : Hid (Fw.f3 ((Nu.rd q).getD 0) ((Nu.rd t).getD 0) zs = none) := Lib.hid (by rw [hz0]; exact Fw.f3_bad (Fw.ok_nil _ _))
        clear hsome hz0 CN1 CN2
        go_enter Tryd.func9, Tryd.ntmps9
        go_wp2_with fail
        refine C.out.mono ?_
        rintro e w1 ⟨v0, rfl, hst, b1⟩
        obtain ⟨gw, cap, rfl, hgw, hcw⟩ := strs_form hst hpos
        have k0 : w1.cell? ⟨gw, 0, none⟩ = some (.string ⟨p.toArray⟩) := hcw 0 _ rfl
        have k1 := Lib.hid (hcw 1 _ rfl)
        have B1 := Lib.hid (bt HB.out b1)
        have K1 := Lib.hid (HK.out w1 b1)
        clear b1 hst hcw
        go_wp2_with fail
        refine (CS.out _).mono ?_
        rintro e w2 ⟨v1, rfl, hst, b2⟩
        obtain ⟨gx, xcap, rfl, hgx, hcx⟩ := strs_form hst hxpos
        have e1 : w2.cell? ⟨gw, 1, none⟩ = some (.string ⟨r.toArray⟩) := (b2.cell (p := ⟨gw, 1, none⟩) hgw).trans k1.out
        have B2 := Lib.hid (bt B1.out b2)
        have K2 := Lib.hid (K1.out.all b2)
        have HX := Lib.hid hcx
        clear b2 hst hcx k0 k1 hgw
        go_wp2_with fail
        refine (CR.out _).mono ?_
        rintro e w3 ⟨u, rfl, ho, b3⟩
        have B3 := Lib.hid (bt B2.out b3)
        have K3 := Lib.hid (K2.out.all b3)
        obtain ⟨ua, ucap, rfl⟩ := (Own.sl ho).form
        clear b3 ho e1
        have KW := K3
        have B := B3
        have RW := Lib.hid (setF_whole KW.out 0 0 (.slice none 0 0))
        have RB := Lib.hid (setF_below B.out (Nat.le_refl _) 0 0 (.slice none 0 0))
        obtain ⟨⟨z0, z1, z2⟩, f0, f1, f2⟩ := w3F KW.out
        go_wp2_with fail
        change bodyPost _ _ _ _ _ (setF w3 w.heap.size 0 0 (.slice none 0 0))
        generalize setF w3 w.heap.size 0 0 (.slice none 0 0) = WZ at *
        obtain ⟨⟨d0, d1, d2⟩, -⟩ := w3F RW.out
        exact bodyPost_ret (v := .tuple #[.agg #[.int .i64 0, .int .i64 0, .slice none 0 0], .bool false]) (by simp [results, Tryd.results9, go_sem, d0, d1, d2]) rfl (RFe.no hr.out RB.out)
      | true =>
        have hno := Lib.hid (fun h => Fw.f3_no (o1 := Nu.rd q) (o2 := Nu.rd t) (zs := zs) h)
        have hgb := Lib.hid (fun h => Fw.f3_bad (a := (Nu.rd q).getD 0) (b := (Nu.rd t).getD 0) (zs := zs) h)
        have hgo := Lib.hid (fun h => Fw.f3_ok (a := (Nu.rd q).getD 0) (b := (Nu.rd t).getD 0) (zs := zs) h)
        clear hsome hq1 ht1 hp1
        generalize (Nu.rd q).getD 0 = a at *
        generalize (Nu.rd t).getD 0 = b at *
        generalize (Nu.rd q).isSome = y1 at *
        generalize (Nu.rd t).isSome = y2 at *
        cases y1 with
        | false =>
          have hr := Lib.hid (hno.out (Or.inl rfl))
          clear hno hgb hgo
          go_enter Tryd.func9, Tryd.ntmps9
          go_wp2_with fail
          refine C.out.mono ?_
          rintro e w1 ⟨v0, rfl, hst, b1⟩
          obtain ⟨gw, cap, rfl, hgw, hcw⟩ := strs_form hst hpos
          have k0 : w1.cell? ⟨gw, 0, none⟩ = some (.string ⟨p.toArray⟩) := hcw 0 _ rfl
          have k1 := Lib.hid (hcw 1 _ rfl)
          have B1 := Lib.hid (bt HB.out b1)
          have K1 := Lib.hid (HK.out w1 b1)
          clear b1 hst hcw
          go_wp2_with fail
          refine (CS.out _).mono ?_
          rintro e w2 ⟨v1, rfl, hst, b2⟩
          obtain ⟨gx, xcap, rfl, hgx, hcx⟩ := strs_form hst hxpos
          have e1 : w2.cell? ⟨gw, 1, none⟩ = some (.string ⟨r.toArray⟩) := (b2.cell (p := ⟨gw, 1, none⟩) hgw).trans k1.out
          have B2 := Lib.hid (bt B1.out b2)
          have K2 := Lib.hid (K1.out.all b2)
          have HX := Lib.hid hcx
          clear b2 hst hcx k0 k1 hgw
          go_wp2_with fail
          refine (CR.out _).mono ?_
          rintro e w3 ⟨u, rfl, ho, b3⟩
          have B3 := Lib.hid (bt B2.out b3)
          have K3 := Lib.hid (K2.out.all b3)
          have x0 : w3.cell? ⟨gx, 0, none⟩ = some (.string ⟨q.toArray⟩) := (b3.cell (p := ⟨gx, 0, none⟩) hgx).trans (HX.out 0 _ rfl)
          have x1 : w3.cell? ⟨gx, 1, none⟩ = some (.string ⟨t.toArray⟩) := (b3.cell (p := ⟨gx, 1, none⟩) hgx).trans (HX.out 1 _ rfl)
          have OV := Lib.hid ho
          obtain ⟨ua, ucap, rfl⟩ := (Own.sl ho).form
          have hle8 := Lib.hid (show w.heap.size < w2.heap.size from K2.out.lt)
          clear b3 ho e1
          go_wp2_with fail
          refine (CN1.out _).mono ?_
          rintro e w4 ⟨rfl, rfl⟩
          go_wp2_with fail
          refine (CN2.out _).mono ?_
          rintro e w4 ⟨rfl, rfl⟩
          clear x0 x1
          have RW0 := Lib.hid (setF_whole K3.out 0 0 (.slice none 0 0))
          have RB0 := Lib.hid (setF_below B3.out (Nat.le_refl _) 0 0 (.slice none 0 0))
          have BX := Lib.hid (boxF_below (setF w3 w.heap.size 0 0 (.slice none 0 0)) a b (.slice ua zs.length ucap) 24)
          have RW := Lib.hid (RW0.out.all BX.out)
          have RB := Lib.hid (bt RB0.out BX.out)
          obtain ⟨⟨z0, z1, z2⟩, f0, f1, f2⟩ := w3F K3.out
          have hlt := K3.out.lt
          have hne : w3.heap.size ≠ w.heap.size := Nat.ne_of_gt hlt
          go_wp2_with fail
          change bodyPost _ _ _ _ _ (boxF (setF w3 w.heap.size 0 0 (.slice none 0 0)) a b (.slice ua zs.length ucap) 24)
          generalize boxF (setF w3 w.heap.size 0 0 (.slice none 0 0)) a b (.slice ua zs.length ucap) 24 = WZ at *
          obtain ⟨⟨d0, d1, d2⟩, -⟩ := w3F RW.out
          exact bodyPost_ret (v := .tuple #[.agg #[.int .i64 0, .int .i64 0, .slice none 0 0], .bool false]) (by simp [results, Tryd.results9, go_sem, d0, d1, d2]) rfl (RFe.no hr.out RB.out)
        | true =>
          cases y2 with
          | false =>
            have hr := Lib.hid (hno.out (Or.inr rfl))
            clear hno hgb hgo
            go_enter Tryd.func9, Tryd.ntmps9
            go_wp2_with fail
            refine C.out.mono ?_
            rintro e w1 ⟨v0, rfl, hst, b1⟩
            obtain ⟨gw, cap, rfl, hgw, hcw⟩ := strs_form hst hpos
            have k0 : w1.cell? ⟨gw, 0, none⟩ = some (.string ⟨p.toArray⟩) := hcw 0 _ rfl
            have k1 := Lib.hid (hcw 1 _ rfl)
            have B1 := Lib.hid (bt HB.out b1)
            have K1 := Lib.hid (HK.out w1 b1)
            clear b1 hst hcw
            go_wp2_with fail
            refine (CS.out _).mono ?_
            rintro e w2 ⟨v1, rfl, hst, b2⟩
            obtain ⟨gx, xcap, rfl, hgx, hcx⟩ := strs_form hst hxpos
            have e1 : w2.cell? ⟨gw, 1, none⟩ = some (.string ⟨r.toArray⟩) := (b2.cell (p := ⟨gw, 1, none⟩) hgw).trans k1.out
            have B2 := Lib.hid (bt B1.out b2)
            have K2 := Lib.hid (K1.out.all b2)
            have HX := Lib.hid hcx
            clear b2 hst hcx k0 k1 hgw
            go_wp2_with fail
            refine (CR.out _).mono ?_
            rintro e w3 ⟨u, rfl, ho, b3⟩
            have B3 := Lib.hid (bt B2.out b3)
            have K3 := Lib.hid (K2.out.all b3)
            have x0 : w3.cell? ⟨gx, 0, none⟩ = some (.string ⟨q.toArray⟩) := (b3.cell (p := ⟨gx, 0, none⟩) hgx).trans (HX.out 0 _ rfl)
            have x1 : w3.cell? ⟨gx, 1, none⟩ = some (.string ⟨t.toArray⟩) := (b3.cell (p := ⟨gx, 1, none⟩) hgx).trans (HX.out 1 _ rfl)
            have OV := Lib.hid ho
            obtain ⟨ua, ucap, rfl⟩ := (Own.sl ho).form
            have hle8 := Lib.hid (show w.heap.size < w2.heap.size from K2.out.lt)
            clear b3 ho e1
            go_wp2_with fail
            refine (CN1.out _).mono ?_
            rintro e w4 ⟨rfl, rfl⟩
            go_wp2_with fail
            refine (CN2.out _).mono ?_
            rintro e w4 ⟨rfl, rfl⟩
            clear x0 x1
            have RW0 := Lib.hid (setF_whole K3.out 0 0 (.slice none 0 0))
            have RB0 := Lib.hid (setF_below B3.out (Nat.le_refl _) 0 0 (.slice none 0 0))
            have BX := Lib.hid (boxF_below (setF w3 w.heap.size 0 0 (.slice none 0 0)) a b (.slice ua zs.length ucap) 24)
            have RW := Lib.hid (RW0.out.all BX.out)
            have RB := Lib.hid (bt RB0.out BX.out)
            obtain ⟨⟨z0, z1, z2⟩, f0, f1, f2⟩ := w3F K3.out
            have hlt := K3.out.lt
            have hne : w3.heap.size ≠ w.heap.size := Nat.ne_of_gt hlt
            go_wp2_with fail
            change bodyPost _ _ _ _ _ (boxF (setF w3 w.heap.size 0 0 (.slice none 0 0)) a b (.slice ua zs.length ucap) 24)
            generalize boxF (setF w3 w.heap.size 0 0 (.slice none 0 0)) a b (.slice ua zs.length ucap) 24 = WZ at *
            obtain ⟨⟨d0, d1, d2⟩, -⟩ := w3F RW.out
            exact bodyPost_ret (v := .tuple #[.agg #[.int .i64 0, .int .i64 0, .slice none 0 0], .bool false]) (by simp [results, Tryd.results9, go_sem, d0, d1, d2]) rfl (RFe.no hr.out RB.out)
          | true =>
            clear hno
            go_enter Tryd.func9, Tryd.ntmps9
            go_wp2_with fail
            refine C.out.mono ?_
            rintro e w1 ⟨v0, rfl, hst, b1⟩
            obtain ⟨gw, cap, rfl, hgw, hcw⟩ := strs_form hst hpos
            have k0 : w1.cell? ⟨gw, 0, none⟩ = some (.string ⟨p.toArray⟩) := hcw 0 _ rfl
            have k1 := Lib.hid (hcw 1 _ rfl)
            have B1 := Lib.hid (bt HB.out b1)
            have K1 := Lib.hid (HK.out w1 b1)
            clear b1 hst hcw
            go_wp2_with fail
            refine (CS.out _).mono ?_
            rintro e w2 ⟨v1, rfl, hst, b2⟩
            obtain ⟨gx, xcap, rfl, hgx, hcx⟩ := strs_form hst hxpos
            have e1 : w2.cell? ⟨gw, 1, none⟩ = some (.string ⟨r.toArray⟩) := (b2.cell (p := ⟨gw, 1, none⟩) hgw).trans k1.out
            have B2 := Lib.hid (bt B1.out b2)
            have K2 := Lib.hid (K1.out.all b2)
            have HX := Lib.hid hcx
            clear b2 hst hcx k0 k1 hgw
            go_wp2_with fail
            refine (CR.out _).mono ?_
            rintro e w3 ⟨u, rfl, ho, b3⟩
            have B3 := Lib.hid (bt B2.out b3)
            have K3 := Lib.hid (K2.out.all b3)
            have x0 : w3.cell? ⟨gx, 0, none⟩ = some (.string ⟨q.toArray⟩) := (b3.cell (p := ⟨gx, 0, none⟩) hgx).trans (HX.out 0 _ rfl)
            have x1 : w3.cell? ⟨gx, 1, none⟩ = some (.string ⟨t.toArray⟩) := (b3.cell (p := ⟨gx, 1, none⟩) hgx).trans (HX.out 1 _ rfl)
            have OV := Lib.hid ho
            obtain ⟨ua, ucap, rfl⟩ := (Own.sl ho).form
            have hle8 := Lib.hid (show w.heap.size < w2.heap.size from K2.out.lt)
            clear b3 ho e1
            go_wp2_with fail
            refine (CN1.out _).mono ?_
            rintro e w4 ⟨rfl, rfl⟩
            go_wp2_with fail
            refine (CN2.out _).mono ?_
            rintro e w4 ⟨rfl, rfl⟩
            clear x0 x1
            have X4 : Hid (Whole (boxF w3 a b (.slice ua zs.length ucap) 24) w3.heap.size 24 #[.int .i64 a, .int .i64 b, .slice ua zs.length ucap]) := Lib.hid (Whole.new w3 _ _)
            have BX := Lib.hid (boxF_below w3 a b (.slice ua zs.length ucap) 24)
            have KX := Lib.hid (K3.out.all BX.out)
            have B4 := Lib.hid (bt B3.out BX.out)
            have O4 := Lib.hid (Own.belowAll OV.out BX.out)
            have CO := Lib.hid (l06Ok_any (boxF w3 a b (.slice ua zs.length ucap) 24) w3.heap.size a b _ zs (boxF_cells w3 a b (.slice ua zs.length ucap) 24) (Own.sl O4.out) hzl)
            clear OV
            cases hx : Fw.ok a b zs with
            | false =>
              have hr := Lib.hid (hgb.out hx)
              rw [hx] at CO
              clear hx hgb hgo
              go_wp2_with fail
              refine CO.out.mono ?_
              rintro e w7 ⟨rfl, b7⟩
              have KW := Lib.hid (KX.out.all b7)
              have B := Lib.hid (bt B4.out b7)
              clear b7
              have RW := Lib.hid (setF_whole KW.out 0 0 (.slice none 0 0))
              have RB := Lib.hid (setF_below B.out (Nat.le_refl _) 0 0 (.slice none 0 0))
              obtain ⟨⟨z0, z1, z2⟩, f0, f1, f2⟩ := w3F KW.out
              go_wp2_with fail
              change bodyPost _ _ _ _ _ (setF w7 w.heap.size 0 0 (.slice none 0 0))
              generalize setF w7 w.heap.size 0 0 (.slice none 0 0) = WZ at *
              obtain ⟨⟨d0, d1, d2⟩, -⟩ := w3F RW.out
              exact bodyPost_ret (v := .tuple #[.agg #[.int .i64 0, .int .i64 0, .slice none 0 0], .bool false]) (by simp [results, Tryd.results9, go_sem, d0, d1, d2]) rfl (RFe.no hr.out RB.out)
            | true =>
              have hr := Lib.hid (hgo.out hx)
              rw [hx] at CO
              clear hx hgb hgo
              go_wp2_with fail
              refine CO.out.mono ?_
              rintro e w7 ⟨rfl, b7⟩
              have KW := Lib.hid (KX.out.all b7)
              have X7 := Lib.hid (X4.out.all b7)
              have B7 := Lib.hid (bt B4.out b7)
              have O7 := Lib.hid (own_belowAll O4.out b7)
              clear b7
              generalize w3.heap.size = gX at *
              obtain ⟨⟨x0, x1, x2⟩, -⟩ := w3F X7.out
              obtain ⟨⟨z0, z1, z2⟩, f0, f1, f2⟩ := w3F KW.out
              have RW := Lib.hid (setF_whole KW.out a b (.slice ua zs.length ucap))
              have RB := Lib.hid (setF_below B7.out (Nat.le_refl _) a b (.slice ua zs.length ucap))
              have O8 := Lib.hid (own_far O7.out (setF_only w7 w.heap.size a b (.slice ua zs.length ucap)) hle8.out)
              go_wp2_with fail
              change bodyPost _ _ _ _ _ (setF w7 w.heap.size a b (.slice ua zs.length ucap))
              generalize setF w7 w.heap.size a b (.slice ua zs.length ucap) = WZ at *
              obtain ⟨⟨d0, d1, d2⟩, -⟩ := w3F RW.out
              exact bodyPost_ret (v := .tuple #[.agg #[.int .i64 a, .int .i64 b, .slice ua zs.length ucap], .bool true]) (by simp [results, Tryd.results9, go_sem, d0, d1, d2]) rfl (RFe.yes hr.out (Go.Joins.ownsRow_le O8.out (Nat.le_of_lt hle8.out)) RB.out)
    · have hr := Lib.hid (Fw.rs_not (zs := zs) hx2)
      have hz2 : (((spl 120 p).length : Int) != 2) = true := by rw [bne_iff_ne]; omega
      clear hsome hx2 hxl
      generalize spl 120 p = X at *
      generalize Fw.rs p zs = o at *
      go_enter Tryd.func9, Tryd.ntmps9
      go_wp2_with fail
      refine C.out.mono ?_
      rintro e w1 ⟨v0, rfl, hst, b1⟩
      obtain ⟨gw, cap, rfl, hgw, hcw⟩ := strs_form hst hpos
      have k0 : w1.cell? ⟨gw, 0, none⟩ = some (.string ⟨p.toArray⟩) := hcw 0 _ rfl
      have k1 := Lib.hid (hcw 1 _ rfl)
      have B1 := Lib.hid (bt HB.out b1)
      have K1 := Lib.hid (HK.out w1 b1)
      clear b1 hst hcw
      go_wp2_with fail
      refine (CS.out _).mono ?_
      rintro e w2 ⟨v1, rfl, hst, b2⟩
      obtain ⟨gx, xcap, rfl, hgx, hcx⟩ := strs_form hst hxpos
      have e1 : w2.cell? ⟨gw, 1, none⟩ = some (.string ⟨r.toArray⟩) := (b2.cell (p := ⟨gw, 1, none⟩) hgw).trans k1.out
      have B2 := Lib.hid (bt B1.out b2)
      have K2 := Lib.hid (K1.out.all b2)
      have HX := Lib.hid hcx
      clear b2 hst hcx k0 k1 hgw
      go_wp2_with fail
      refine (CR.out _).mono ?_
      rintro e w3 ⟨u, rfl, ho, b3⟩
      have B3 := Lib.hid (bt B2.out b3)
      have K3 := Lib.hid (K2.out.all b3)
      obtain ⟨ua, ucap, rfl⟩ := (Own.sl ho).form
      clear b3 ho e1
      have KW := K3
      have B := B3
      have RW := Lib.hid (setF_whole KW.out 0 0 (.slice none 0 0))
      have RB := Lib.hid (setF_below B.out (Nat.le_refl _) 0 0 (.slice none 0 0))
      obtain ⟨⟨z0, z1, z2⟩, f0, f1, f2⟩ := w3F KW.out
      go_wp2_with fail
      change bodyPost _ _ _ _ _ (setF w3 w.heap.size 0 0 (.slice none 0 0))
      generalize setF w3 w.heap.size 0 0 (.slice none 0 0) = WZ at *
      obtain ⟨⟨d0, d1, d2⟩, -⟩ := w3F RW.out
      exact bodyPost_ret (v := .tuple #[.agg #[.int .i64 0, .int .i64 0, .slice none 0 0], .bool false]) (by simp [results, Tryd.results9, go_sem, d0, d1, d2]) rfl (RFe.no hr.out RB.out)
  · have hr := Lib.hid (Fw.rf_not h2)
    have hz2 : (((spl 32 s.data.toList).length : Int) != 2) = true := by rw [bne_iff_ne]; omega
    clear hpl hsl h2
    generalize spl 32 s.data.toList = P at *
    generalize Fw.rf s.data.toList = o at *
    go_enter Tryd.func9, Tryd.ntmps9
    go_wp2_with fail
    refine C.out.mono ?_
    rintro e w1 ⟨v0, rfl, hst, b1⟩
    obtain ⟨gw, cap, rfl, hgw, hcw⟩ := strs_form hst hpos
    have B := Lib.hid (bt HB.out b1)
    have KW := Lib.hid (HK.out w1 b1)
    clear b1 hst hcw hgw
    have RW := Lib.hid (setF_whole KW.out 0 0 (.slice none 0 0))
    have RB := Lib.hid (setF_below B.out (Nat.le_refl _) 0 0 (.slice none 0 0))
    obtain ⟨⟨z0, z1, z2⟩, f0, f1, f2⟩ := w3F KW.out
    go_wp2_with fail
    change bodyPost _ _ _ _ _ (setF w1 w.heap.size 0 0 (.slice none 0 0))
    generalize setF w1 w.heap.size 0 0 (.slice none 0 0) = WZ at *
    obtain ⟨⟨d0, d1, d2⟩, -⟩ := w3F RW.out
    exact bodyPost_ret (v := .tuple #[.agg #[.int .i64 0, .int .i64 0, .slice none 0 0], .bool false]) (by simp [results, Tryd.results9, go_sem, d0, d1, d2]) rfl (RFe.no hr.out RB.out)
set_option maxHeartbeats 12800000 in
theorem specReadField_any (s : ByteArray) (w : World) (hs : s.size ≤ 1048576) :
    Calls Tryd.prog 4 #[.string s] w (RFe w (Fw.rf s.data.toList)) := by
  have HB := Lib.hid (boxF_below w 0 0 (.slice none 0 0) 24)
  have HK : Hid (∀ w1, Below (boxF w 0 0 (.slice none 0 0) 24).heap.size (boxF w 0 0 (.slice none 0 0) 24) w1 → Whole w1 w.heap.size 24 #[.int .i64 0, .int .i64 0, .slice none 0 0]) := Lib.hid (fun w1 h => (Whole.new w _ #[.int .i64 0, .int .i64 0, .slice none 0 0]).all h)
  have C := Lib.hid (l06Read_any s (boxF w 0 0 (.slice none 0 0) 24) hs)
  have hsz : w.heap.size < (boxF w 0 0 (.slice none 0 0) 24).heap.size := by rw [boxF_size]; omega
  have HSZ := Lib.hid hsz
  clear hsz
  generalize Fw.rf s.data.toList = o at *
  unfold RFe at *
  generalize o.getD Fw.fz = G at *
  generalize o.isSome = y at *
  obtain ⟨a, b, zs⟩ := G
  simp only [] at C ⊢
  unfold boxF at C HB HK HSZ
  go_enter Tryd.func4, Tryd.ntmps4
  go_wp2_with fail
  refine C.out.mono ?_
  rintro e w1 ⟨u, rfl, ho, b1⟩
  have B1 := Lib.hid (bt HB.out b1)
  have KW := Lib.hid (HK.out w1 b1)
  have O1 := Lib.hid ho
  obtain ⟨ua, ucap, rfl⟩ := (Own.sl ho).form
  clear b1 ho
  obtain ⟨⟨z0, z1, z2⟩, f0, f1, f2⟩ := w3F KW.out
  have RW := Lib.hid (setF_whole KW.out a b (.slice ua zs.length ucap))
  have RB := Lib.hid (setF_below B1.out (Nat.le_refl _) a b (.slice ua zs.length ucap))
  have O8 := Lib.hid (own_far O1.out (setF_only w1 w.heap.size a b (.slice ua zs.length ucap)) HSZ.out)
  go_wp2_with fail
  change bodyPost _ _ _ _ _ (setF w1 w.heap.size a b (.slice ua zs.length ucap))
  generalize setF w1 w.heap.size a b (.slice ua zs.length ucap) = WZ at *
  obtain ⟨⟨d0, d1, d2⟩, -⟩ := w3F RW.out
  exact bodyPost_ret (v := .tuple #[.agg #[.int .i64 a, .int .i64 b, .slice ua zs.length ucap], .bool y]) (by simp [results, Tryd.results4, go_sem, d0, d1, d2]) rfl ⟨_, rfl, Go.Joins.ownsRow_le O8.out (Nat.le_of_lt HSZ.out), RB.out⟩
set_option maxHeartbeats 12800000 in
theorem implReadField_any (s : ByteArray) (w : World) (hs : s.size ≤ 1048576) (hpw : Pow w) (her : Errs w) (hml : MaxL w) :
    Calls Tryd.prog 5 #[.string s] w (RFe w (Fw.rf s.data.toList)) := by
  have HB := Lib.hid (boxF_below w 0 0 (.slice none 0 0) 24)
  have HK : Hid (∀ w1, Below (boxF w 0 0 (.slice none 0 0) 24).heap.size (boxF w 0 0 (.slice none 0 0) 24) w1 → Whole w1 w.heap.size 24 #[.int .i64 0, .int .i64 0, .slice none 0 0]) := Lib.hid (fun w1 h => (Whole.new w _ #[.int .i64 0, .int .i64 0, .slice none 0 0]).all h)
  have C := Lib.hid (cut_any s 32 (boxF w 0 0 (.slice none 0 0) 24) hs (hml.below HB.out))
  have HP := Lib.hid hpw
  have HE := Lib.hid her
  have HM := Lib.hid hml
  have hl := cut_len 32 s.data.toList
  have hsz : s.data.toList.length = s.size := by simp
  rw [hsz] at hl
  unfold Fw.rf
  generalize (Lib.cut s.data.toList [32]).1 = p at *
  generalize (Lib.cut s.data.toList [32]).2.1 = r at *
  generalize (Lib.cut s.data.toList [32]).2.2 = q0 at *
  have C2 := Lib.hid (fun W (h : Below w.heap.size w W) => cut_any ⟨p.toArray⟩ 120 W (by rw [sz_mk]; omega) (HM.out.below h))
  have hl2 := cut_len 120 p
  have hpp : (⟨p.toArray⟩ : ByteArray).data.toList = p := by simp
  rw [hpp] at C2
  unfold Fw.rs
  generalize (Lib.cut p [120]).1 = q at *
  generalize (Lib.cut p [120]).2.1 = t at *
  generalize (Lib.cut p [120]).2.2 = q1 at *
  have CD1 := Lib.hid (fun W (h : Below w.heap.size w W) => decimal_at q (by omega) W (HP.out.below h) (HE.out.below h))
  have CD2 := Lib.hid (fun W (h : Below w.heap.size w W) => decimal_at t (by omega) W (HP.out.below h) (HE.out.below h))
  have CR := Lib.hid (fun W (h : Below w.heap.size w W) => implReadList_any ⟨r.toArray⟩ W (by rw [sz_mk]; omega) (HP.out.below h) (HE.out.below h) (HM.out.below h))
  have hrr : (⟨r.toArray⟩ : ByteArray).data.toList = r := by simp
  rw [hrr] at CR
  have hzl : ((rl r).getD []).length ≤ 1048576 := Nat.le_trans (rl_len r) (by omega)
  unfold boxF at C HB HK
  unfold RL at CR
  clear hpw her hml hsz hrr hpp hl hl2
  generalize (rl r).isSome = y at *
  generalize (rl r).getD [] = zs at *
  generalize (Nu.rd q).getD 0 = a at *
  generalize (Nu.rd t).getD 0 = b at *
  generalize (Nu.rd q).isSome = y1 at *
  generalize (Nu.rd t).isSome = y2 at *
  have hgb := Lib.hid (fun h => Fw.f3_bad (a := a) (b := b) (zs := zs) h)
  have hgo := Lib.hid (fun h => Fw.f3_ok (a := a) (b := b) (zs := zs) h)
  go_enter Tryd.func5, Tryd.ntmps5
  go_wp2_with fail
  refine C.out.mono ?_
  rintro e w1 ⟨rfl, b1⟩
  have B1 := Lib.hid (bt HB.out b1)
  have K1 := Lib.hid (HK.out w1 b1)
  clear b1
  go_wp2_with fail
  refine (C2.out _ B1.out).mono ?_
  rintro e w2 ⟨rfl, b2⟩
  have B2 := Lib.hid (bt B1.out b2)
  have K2 := Lib.hid (K1.out.all b2)
  clear b2
  have BX := Lib.hid (boxF_below w2 0 0 (.slice none 0 0) 24)
  have X3 : Hid (Whole (boxF w2 0 0 (.slice none 0 0) 24) w2.heap.size 24 #[.int .i64 0, .int .i64 0, .slice none 0 0]) := Lib.hid (Whole.new w2 _ _)
  have B3 := Lib.hid (bt B2.out BX.out)
  have K3 := Lib.hid (K2.out.all BX.out)
  have hgX := Lib.hid (show w.heap.size < w2.heap.size from K2.out.lt)
  go_wp2_with fail
  refine (CD1.out (boxF w2 0 0 (.slice none 0 0) 24) B3.out).mono ?_
  rintro e w4 ⟨rfl, b4⟩
  have X4 := Lib.hid (X3.out.all b4)
  have K4 := Lib.hid (K3.out.all b4)
  have B4 := Lib.hid (bt B3.out b4)
  clear b4 X3 K3 B3 BX
  generalize w2.heap.size = gX at *
  have f0' := X4.out.free 0
  have x0' := X4.out.at_ 0
  have X4s : Hid (Whole (w4.setCell ⟨gX, 0, none⟩ (.int .i64 a)) gX 24 #[.int .i64 a, .int .i64 0, .slice none 0 0]) := Lib.hid (by simpa using X4.out.put 0 (.int .i64 a))
  have G0 : Hid (w4.grownBy (w4.setCell ⟨gX, 0, none⟩ (.int .i64 a)) (some gX)) := Lib.hid (only_setCell (World.grownBy.refl _ _) rfl _)
  have K4s := Lib.hid (K4.out.far G0.out (Nat.ne_of_lt hgX.out))
  have B4s : Hid (Below w.heap.size w (w4.setCell ⟨gX, 0, none⟩ (.int .i64 a))) := Lib.hid (B4.out.setCell (p := ⟨gX, 0, none⟩) (Nat.le_of_lt hgX.out) _)
  go_wp2_with fail
  refine (CD2.out _ B4s.out).mono ?_
  rintro e w5 ⟨rfl, b5⟩
  have X5 := Lib.hid (X4s.out.all b5)
  have K5 := Lib.hid (K4s.out.all b5)
  have B5 := Lib.hid (bt B4s.out b5)
  clear b5 X4 K4 B4 X4s K4s B4s G0 f0' x0'
  have f1' := X5.out.free 1
  have x1' := X5.out.at_ 1
  have X5s : Hid (Whole (w5.setCell ⟨gX, 1, none⟩ (.int .i64 b)) gX 24 #[.int .i64 a, .int .i64 b, .slice none 0 0]) := Lib.hid (by simpa using X5.out.put 1 (.int .i64 b))
  have G1 : Hid (w5.grownBy (w5.setCell ⟨gX, 1, none⟩ (.int .i64 b)) (some gX)) := Lib.hid (only_setCell (World.grownBy.refl _ _) rfl _)
  have K5s := Lib.hid (K5.out.far G1.out (Nat.ne_of_lt hgX.out))
  have B5s : Hid (Below w.heap.size w (w5.setCell ⟨gX, 1, none⟩ (.int .i64 b))) := Lib.hid (B5.out.setCell (p := ⟨gX, 1, none⟩) (Nat.le_of_lt hgX.out) _)
  go_wp2_with fail
  refine (CR.out _ B5s.out).mono ?_
  rintro e w6 ⟨u, rfl, ov, b6⟩
  have X6 := Lib.hid (X5s.out.all b6)
  have K6 := Lib.hid (K5s.out.all b6)
  have B6 := Lib.hid (bt B5s.out b6)
  have OV := Lib.hid ov
  have hlt6 := Lib.hid X5s.out.lt
  obtain ⟨va, vcap, rfl⟩ := (Own.sl ov).form
  clear b6 ov X5 K5 B5 X5s K5s B5s G1 f1' x1'
  have f2' := X6.out.free 2
  have x2' := X6.out.at_ 2
  have X6s : Hid (Whole (w6.setCell ⟨gX, 2, none⟩ (.slice va zs.length vcap)) gX 24 #[.int .i64 a, .int .i64 b, .slice va zs.length vcap]) := Lib.hid (by simpa using X6.out.put 2 (.slice va zs.length vcap))
  have G2 : Hid (w6.grownBy (w6.setCell ⟨gX, 2, none⟩ (.slice va zs.length vcap)) (some gX)) := Lib.hid (only_setCell (World.grownBy.refl _ _) rfl _)
  have K6s := Lib.hid (K6.out.far G2.out (Nat.ne_of_lt hgX.out))
  have B6s : Hid (Below w.heap.size w (w6.setCell ⟨gX, 2, none⟩ (.slice va zs.length vcap))) := Lib.hid (B6.out.setCell (p := ⟨gX, 2, none⟩) (Nat.le_of_lt hgX.out) _)
  have O7 := Lib.hid (own_far OV.out G2.out hlt6.out)
  obtain ⟨⟨y0', y1', -⟩, -⟩ := w3F X6.out
  have CV := Lib.hid (implValidField_any (w6.setCell ⟨gX, 2, none⟩ (.slice va zs.length vcap)) a b _ zs (Own.sl O7.out) hzl)
  clear X6 K6 B6 OV G2
  cases hx : Fw.ok a b zs with
  | false =>
    have hr := Lib.hid (hgb.out hx)
    rw [hx] at CV
    clear hx hgb hgo
    go_wp2_with fail
    refine CV.out.mono ?_
    rintro e w7 ⟨rfl, b7⟩
    have KW := Lib.hid (K6s.out.all b7)
    have B := Lib.hid (bt B6s.out b7)
    clear b7 f2' x2' y0' y1'
    have RW := Lib.hid (setF_whole KW.out 0 0 (.slice none 0 0))
    have RB := Lib.hid (setF_below B.out (Nat.le_refl _) 0 0 (.slice none 0 0))
    obtain ⟨⟨z0, z1, z2⟩, f0, f1, f2⟩ := w3F KW.out
    go_wp2_with fail
    change bodyPost _ _ _ _ _ (setF w7 w.heap.size 0 0 (.slice none 0 0))
    generalize setF w7 w.heap.size 0 0 (.slice none 0 0) = WZ at *
    obtain ⟨⟨d0, d1, d2⟩, -⟩ := w3F RW.out
    exact bodyPost_ret (v := .tuple #[.agg #[.int .i64 0, .int .i64 0, .slice none 0 0], .bool false]) (by simp [results, Tryd.results5, go_sem, d0, d1, d2]) rfl (RFe.no hr.out RB.out)
  | true =>
    have hr := Lib.hid (hgo.out hx)
    rw [hx] at CV
    clear hx hgb hgo
    go_wp2_with fail
    refine CV.out.mono ?_
    rintro e w7 ⟨rfl, b7⟩
    have KW := Lib.hid (K6s.out.all b7)
    have X7 := Lib.hid (X6s.out.all b7)
    have B7 := Lib.hid (bt B6s.out b7)
    have O8 := Lib.hid (own_belowAll O7.out b7)
    clear b7 f2' x2' y0' y1'
    obtain ⟨⟨x0, x1, x2⟩, -⟩ := w3F X7.out
    obtain ⟨⟨z0, z1, z2⟩, f0, f1, f2⟩ := w3F KW.out
    have RW := Lib.hid (setF_whole KW.out a b (.slice va zs.length vcap))
    have RB := Lib.hid (setF_below B7.out (Nat.le_refl _) a b (.slice va zs.length vcap))
    have hlt8 := Lib.hid (Nat.lt_trans hgX.out hlt6.out)
    have O9 := Lib.hid (own_far O8.out (setF_only w7 w.heap.size a b (.slice va zs.length vcap)) hlt8.out)
    go_wp2_with fail
    change bodyPost _ _ _ _ _ (setF w7 w.heap.size a b (.slice va zs.length vcap))
    generalize setF w7 w.heap.size a b (.slice va zs.length vcap) = WZ at *
    obtain ⟨⟨d0, d1, d2⟩, -⟩ := w3F RW.out
    exact bodyPost_ret (v := .tuple #[.agg #[.int .i64 a, .int .i64 b, .slice va zs.length vcap], .bool true]) (by simp [results, Tryd.results5, go_sem, d0, d1, d2]) rfl (RFe.yes hr.out (Go.Joins.ownsRow_le O9.out (Nat.le_of_lt hlt8.out)) RB.out)
end Go.Proofs.YtjogppgddjfejaaDoor

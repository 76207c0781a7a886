/-
  ReadDate, the model's and the program's. Conditions: texts of at most 2^20 bytes; MaxLen holds some number; impl.monthDays holds its table.
-/
import Derived.Test.YtnflndngkihaaabDoorRdC
namespace Go.Proofs.YtnflndngkihaaabDoor
open Go.RowKit
set_option linter.unusedVariables false

theorem num_not {y m d : Int} (h : ¬ Dy.isD y m d) : numB y m d = false := by
  rcases in_cases 2000 y 2099 with ⟨y1, y2, i1⟩ | ⟨-, i1⟩
  · rcases in_cases 1 m 12 with ⟨m1, m2, i2⟩ | ⟨-, i2⟩
    · rcases in_cases 1 d (Dy.dom y m) with ⟨d1, d2, i3⟩ | ⟨-, i3⟩
      · exact absurd ⟨⟨y1, y2⟩, ⟨m1, m2⟩, d1, d2⟩ h
      · exact num_no3 i3
    · exact num_no2 i2
  · exact num_no1 i1
/-- the day that three numbers say -/
def ymd (y m d : Nat) : Option Int := if numB y m d then some (numV y m d) else none
theorem ymd_y {y m d : Nat} (h : Dy.isD y m d) : ymd y m d = some (Dy.num y m + d - 1) := by unfold ymd; rw [if_pos (num_yes h).1, (num_yes h).2]
theorem ymd_n {y m d : Nat} (h : ¬ Dy.isD y m d) : ymd y m d = none := by unfold ymd; rw [num_not h]; rfl
/-- what ReadDate reads -/
def datV (l : List UInt8) : Option Int := match Fd.flds 45 [4, 2, 2] l with | some [y, m, d] => ymd y m d | _ => none
theorem fl3 (c : UInt8) (l : List UInt8) : Fd.flds c [4, 2, 2] l = if 4 < l.length ∧ l[4]? = some c then (match Fd.rd1 4 (l.take 4), Fd.flds c [2, 2] (l.drop 5) with | some v, some vs => some (v :: vs) | _, _ => none) else none := rfl
theorem fl3_len {c : UInt8} {l : List UInt8} (h : l.length ≠ 10) : Fd.flds c [4, 2, 2] l = none := by
  rw [fl3]
  split
  · rw [fl2_len (by rw [List.length_drop]; omega)]
    split <;> simp_all
  · rfl
theorem fl3_sep {c : UInt8} {l : List UInt8} (h : l[4]? ≠ some c ∨ l[7]? ≠ some c) : Fd.flds c [4, 2, 2] l = none := by
  rw [fl3]
  split
  · rename_i h4
    rcases h with h | h
    · exact absurd h4.2 h
    · rw [fl2_sep (by rw [List.getElem?_drop]; exact h)]
      split <;> simp_all
  · rfl
theorem fl3_in {c : UInt8} {l : List UInt8} (h : l.length = 10) (h2 : l[4]? = some c) (h3 : l[7]? = some c) : Fd.flds c [4, 2, 2] l = (match Fd.rd1 4 ((l.drop 0).take 4), Fd.rd1 2 ((l.drop 5).take 2), Fd.rd1 2 ((l.drop 8).take 2) with | some v, some u, some t => some [v, u, t] | _, _, _ => none) := by
  rw [fl3, if_pos ⟨by omega, h2⟩, fl2_in (by rw [List.length_drop]; omega) (by rw [List.getElem?_drop]; exact h3), List.drop_zero, List.drop_zero, List.drop_drop]
  cases Fd.rd1 4 (l.take 4) <;> cases Fd.rd1 2 ((l.drop 5).take 2) <;> cases Fd.rd1 2 ((l.drop 8).take 2) <;> rfl
theorem dat_none {l : List UInt8} (h : Fd.flds 45 [4, 2, 2] l = none) : datV l = none := by unfold datV; rw [h]
theorem dat_some {l : List UInt8} {y m d : Nat} (e : Fd.flds 45 [4, 2, 2] l = some [y, m, d]) : datV l = ymd y m d := by unfold datV; rw [e]

set_option maxRecDepth 100000 in
set_option maxHeartbeats 3200000 in
theorem implReadDate_any (s : ByteArray) (w : World) (hs : s.size ≤ 1048576) (hm' : MaxN w) (hM : Months w) :
    Calls Tryd.prog 23 #[.string s] w fun e w' => e = .returned (.tuple #[.int .i64 ((datV s.data.toList).getD 0), .bool (datV s.data.toList).isSome]) ∧ Below w.heap.size w w' := by
  have E : Fd.flds 45 [4, 2, 2] s.data.toList = Fd.rdAll [4, 2, 2] (Lib.splitK [45] 0 2 s.data.toList) := Fd.flds_eq (by decide) [4, 2, 2] _ (by simp)
  have hb0 : Below w.heap.size w (w.alloc (.cells (iv [4, 2, 2]).toArray 3)) := (Below.refl _ _).alloc (Nat.le_refl _) _
  have C : Hid (Calls Tryd.prog 47 #[.string s, .string ⟨#[45]⟩, .slice (some ⟨w.heap.size, 0, none⟩) 3 3] (w.alloc (.cells #[.int .i64 4, .int .i64 2, .int .i64 2] 3)) (RF (w.alloc (.cells #[.int .i64 4, .int .i64 2, .int .i64 2] 3)) (Fd.rdAll [4, 2, 2] (Lib.splitK [45] 0 2 s.data.toList)))) :=
    Lib.hid (readFields_any s 45 [4, 2, 2] _ (w.alloc (.cells (iv [4, 2, 2]).toArray 3)) hs (sl_new w 3 [4, 2, 2]) (by decide) (by decide) (by decide) (hm'.below hb0))
  have HB0 : Hid (Below w.heap.size w (w.alloc (.cells #[.int .i64 4, .int .i64 2, .int .i64 2] 3))) := Lib.hid hb0
  have HL := Lib.hid (fun vs (h : Fd.rdAll [4, 2, 2] (Lib.splitK [45] 0 2 s.data.toList) = some vs) => (Fd.rdAll_len h).2)
  have HS := Lib.hid (fun vs (h : Fd.rdAll [4, 2, 2] (Lib.splitK [45] 0 2 s.data.toList) = some vs) => rdAll_small h (by decide))
  have H0 := Lib.hid (fun (h : Fd.rdAll [4, 2, 2] (Lib.splitK [45] 0 2 s.data.toList) = none) => dat_none (E.trans h))
  have H1 := Lib.hid (fun a b c (h : Fd.rdAll [4, 2, 2] (Lib.splitK [45] 0 2 s.data.toList) = some [a, b, c]) => dat_some (E.trans h))
  have HM := Lib.hid hM
  clear E hb0 hm' hM
  generalize Fd.rdAll [4, 2, 2] (Lib.splitK [45] 0 2 s.data.toList) = x at *
  generalize datV s.data.toList = o at *
  rcases x with _ | vs
  · have hr := Lib.hid (H0.out rfl)
    go_enter Tryd.func23, Tryd.ntmps23
    go_wp2_with fail
    refine C.out.mono ?_
    rintro e w1 ⟨u, rfl, hu, b1⟩
    have B1 := Lib.hid (bt HB0.out b1)
    clear b1 hu
    go_wp2_with fail
    go_ret2
    exact ⟨ret_o hr.out.symm rfl rfl, B1.out⟩
  · have hl := HL.out vs rfl
    match vs, hl with
    | [a, b, c], _ =>
      have a1 := HS.out _ rfl a (by simp)
      have b1 := HS.out _ rfl b (by simp)
      have d1 := HS.out _ rfl c (by simp)
      have hr := Lib.hid (H1.out a b c rfl)
      clear HL HS H0 H1
      by_cases hD : Dy.isD a b c
      · have hr2 : Hid (o = some (Dy.num a b + c - 1)) := Lib.hid (hr.out.trans (ymd_y hD))
        have C4 := fun W hM => Lib.hid (implDayNumber_yes a b c W hM hD)
        clear hD
        go_enter Tryd.func23, Tryd.ntmps23
        go_wp2_with fail
        refine C.out.mono ?_
        rintro e w1 ⟨u, rfl, hu, b1⟩
        have B1 := Lib.hid (bt HB0.out b1)
        obtain ⟨g, cap, rfl, hc⟩ := own_cells hu (by simp [nz])
        have c0 : w1.cell? ⟨g, 0, none⟩ = some (.int .i64 (a : Int)) := hc 0 _ rfl
        have c1 : w1.cell? ⟨g, 1, none⟩ = some (.int .i64 (b : Int)) := hc 1 _ rfl
        have c2 : w1.cell? ⟨g, 2, none⟩ = some (.int .i64 (c : Int)) := hc 2 _ rfl
        have hln : (nz ((some [a, b, c]).getD [])).length = 3 := rfl
        rw [hln]
        clear b1 hu hc hln
        go_wp2_with fail
        go_region_with (refine (C4 _ (by first | exact HM.out.below B1.out | exact HM.out.below (below_drewN B1.out _))).out.mono ?_; rintro e w2 ⟨rfl, rfl⟩)
        all_goals (
          go_wp2
          go_ret2
          exact ⟨ret_o hr2.out.symm rfl rfl, below_drewN B1.out _⟩)
      · have hr2 : Hid (o = none) := Lib.hid (hr.out.trans (ymd_n hD))
        have C4 := fun W hM => Lib.hid (implDayNumber_no a b c W hM hD)
        clear hD
        go_enter Tryd.func23, Tryd.ntmps23
        go_wp2_with fail
        refine C.out.mono ?_
        rintro e w1 ⟨u, rfl, hu, b1⟩
        have B1 := Lib.hid (bt HB0.out b1)
        obtain ⟨g, cap, rfl, hc⟩ := own_cells hu (by simp [nz])
        have c0 : w1.cell? ⟨g, 0, none⟩ = some (.int .i64 (a : Int)) := hc 0 _ rfl
        have c1 : w1.cell? ⟨g, 1, none⟩ = some (.int .i64 (b : Int)) := hc 1 _ rfl
        have c2 : w1.cell? ⟨g, 2, none⟩ = some (.int .i64 (c : Int)) := hc 2 _ rfl
        have hln : (nz ((some [a, b, c]).getD [])).length = 3 := rfl
        rw [hln]
        clear b1 hu hc hln
        go_wp2_with fail
        go_region_with (refine (C4 _ (by first | exact HM.out.below B1.out | exact HM.out.below (below_drewN B1.out _))).out.mono ?_; rintro e w2 ⟨rfl, rfl⟩)
        all_goals (
          go_wp2
          go_ret2
          exact ⟨ret_o hr2.out.symm rfl rfl, below_drewN B1.out _⟩)
end Go.Proofs.YtnflndngkihaaabDoor

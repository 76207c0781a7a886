/-
  ReadDate, the model's and the program's. Conditions: texts of at most 2^20 bytes; MaxLen holds some number; impl.monthDays holds its table.
-/
import Derived.Test.YtnflndngkihaaaaDoorRdC
namespace Go.Proofs.YtnflndngkihaaaaDoor
open Go.RowKit
set_option linter.unusedVariables false

theorem num_not {y m d : Int} (h : ¬ Dy.isD y m d) : numB y m d = false := by
  rcases in_cases 2000 y 2099 with ⟨y1, y2, i1⟩ | ⟨-, i1⟩
  · rcases in_cases 1 m 12 with ⟨m1, m2, i2⟩ | ⟨-, i2⟩
    · rcases in_cases 1 d (Dy.dom y m) with ⟨d1, d2, i3⟩ | ⟨-, i3⟩
      · exact absurd ⟨⟨y1, y2⟩, ⟨m1, m2⟩, d1, d2⟩ h
      · exact num_no3 i3
    · exact num_no2 i2
  · exact num_no1 i1
/-- the day that three numbers say -/
def ymd (y m d : Nat) : Option Int := if numB y m d then some (numV y m d) else none
theorem ymd_y {y m d : Nat} (h : Dy.isD y m d) : ymd y m d = some (Dy.num y m + d - 1) := by unfold ymd; rw [if_pos (num_yes h).1, (num_yes h).2]
theorem ymd_n {y m d : Nat} (h : ¬ Dy.isD y m d) : ymd y m d = none := by unfold ymd; rw [num_not h]; rfl
/-- what ReadDate reads -/
def datV (l : List UInt8) : Option Int := match Fd.flds 45 [4, 2, 2] l with | some [y, m, d] => ymd y m d | _ => none
theorem fl3 (c : UInt8) (l : List UInt8) : Fd.flds c [4, 2, 2] l = if 4 < l.length ∧ l[4]? = some c then (match Fd.rd1 4 (l.take 4), Fd.flds c [2, 2] (l.drop 5) with | some v, some vs => some (v :: vs) | _, _ => none) else none := rfl
theorem fl3_len {c : UInt8} {l : List UInt8} (h : l.length ≠ 10) : Fd.flds c [4, 2, 2] l = none := by
  rw [fl3]
  split
  · rw [fl2_len (by rw [List.length_drop]; omega)]
    split <;> simp_all
  · rfl
theorem fl3_sep {c : UInt8} {l : List UInt8} (h : l[4]? ≠ some c ∨ l[7]? ≠ some c) : Fd.flds c [4, 2, 2] l = none := by
  rw [fl3]
  split
  · rename_i h4
    rcases h with h | h
    · exact absurd h4.2 h
    · rw [fl2_sep (by rw [List.getElem?_drop]; exact h)]
      split <;> simp_all
  · rfl
theorem fl3_in {c : UInt8} {l : List UInt8} (h : l.length = 10) (h2 : l[4]? = some c) (h3 : l[7]? = some c) : Fd.flds c [4, 2, 2] l = (match Fd.rd1 4 ((l.drop 0).take 4), Fd.rd1 2 ((l.drop 5).take 2), Fd.rd1 2 ((l.drop 8).take 2) with | some v, some u, some t => some [v, u, t] | _, _, _ => none) := by
  rw [fl3, if_pos ⟨by omega, h2⟩, fl2_in (by rw [List.length_drop]; omega) (by rw [List.getElem?_drop]; exact h3), List.drop_zero, List.drop_zero, List.drop_drop]
  cases Fd.rd1 4 (l.take 4) <;> cases Fd.rd1 2 ((l.drop 5).take 2) <;> cases Fd.rd1 2 ((l.drop 8).take 2) <;> rfl
theorem dat_none {l : List UInt8} (h : Fd.flds 45 [4, 2, 2] l = none) : datV l = none := by unfold datV; rw [h]
theorem dat_some {l : List UInt8} {y m d : Nat} (e : Fd.flds 45 [4, 2, 2] l = some [y, m, d]) : datV l = ymd y m d := by unfold datV; rw [e]

set_option maxRecDepth 100000 in
set_option maxHeartbeats 6400000 in
theorem l02Read_any (s : ByteArray) (w : World) (hs : s.size ≤ 1048576) :
    Calls Tryd.prog 44 #[.string s] w fun e w' => e = .returned (.tuple #[.int .i64 ((datV s.data.toList).getD 0), .bool (datV s.data.toList).isSome]) ∧ Below w.heap.size w w' := by
  have hsl : s.data.toList.length = s.size := by simp
  by_cases h5 : s.size = 10
  · have p4 : 4 < s.size := by omega
    have p7 : 7 < s.size := by omega
    have hat4 : s.data.toList[4]? = some (s[4]'p4) := by rw [List.getElem?_eq_getElem (by simpa using p4)]; rfl
    have hat7 : s.data.toList[7]? = some (s[7]'p7) := by rw [List.getElem?_eq_getElem (by simpa using p7)]; rfl
    have t1 : ((s.size : Int) != 10) = false := by rw [h5]; rfl
    by_cases hc4 : s[4]'p4 = 45
    · have t4 : (((s[4]'p4).toNat : Int) != 45) = false := by rw [hc4]; rfl
      by_cases hc7 : s[7]'p7 = 45
      · have t7 : (((s[7]'p7).toNat : Int) != 45) = false := by rw [hc7]; rfl
        have E := fl3_in (c := 45) (hsl.trans h5) (by rw [hat4, hc4]) (by rw [hat7, hc7])
        have C1 : Hid (Calls Tryd.prog 48 #[.string (s.extract 0 4)] w fun e w' => e = .returned (.tuple #[.int .i64 (((Fd.rd1 4 ((s.data.toList.drop 0).take 4)).getD 0 : Nat) : Int), .bool (Fd.rd1 4 ((s.data.toList.drop 0).take 4)).isSome]) ∧ Below w.heap.size w w') := Lib.hid (l02Digits_at s 0 4 (by omega) (by omega) (by omega) w)
        have C2 : ∀ W, Hid (Calls Tryd.prog 48 #[.string (s.extract 5 7)] W fun e w' => e = .returned (.tuple #[.int .i64 (((Fd.rd1 2 ((s.data.toList.drop 5).take 2)).getD 0 : Nat) : Int), .bool (Fd.rd1 2 ((s.data.toList.drop 5).take 2)).isSome]) ∧ Below W.heap.size W w') := fun W => Lib.hid (l02Digits_at s 5 7 (by omega) (by omega) (by omega) W)
        have C3 : ∀ W, Hid (Calls Tryd.prog 48 #[.string (s.extract 8 10)] W fun e w' => e = .returned (.tuple #[.int .i64 (((Fd.rd1 2 ((s.data.toList.drop 8).take 2)).getD 0 : Nat) : Int), .bool (Fd.rd1 2 ((s.data.toList.drop 8).take 2)).isSome]) ∧ Below W.heap.size W w') := fun W => Lib.hid (l02Digits_at s 8 10 (by omega) (by omega) (by omega) W)
        have HA := Lib.hid (fun v (h : Fd.rd1 4 ((s.data.toList.drop 0).take 4) = some v) => rd1_small h (by omega))
        have HB := Lib.hid (fun v (h : Fd.rd1 2 ((s.data.toList.drop 5).take 2) = some v) => rd1_small h (by omega))
        have HD := Lib.hid (fun v (h : Fd.rd1 2 ((s.data.toList.drop 8).take 2) = some v) => rd1_small h (by omega))
        clear hsl hat4 hat7 hc4 hc7
        generalize Fd.rd1 4 ((s.data.toList.drop 0).take 4) = x at *
        generalize Fd.rd1 2 ((s.data.toList.drop 5).take 2) = y at *
        generalize Fd.rd1 2 ((s.data.toList.drop 8).take 2) = z at *
        have main : (x = none ∨ y = none ∨ z = none) ∨ ∃ a b c : Nat, x = some a ∧ y = some b ∧ z = some c := by
          rcases x with _ | a
          · exact Or.inl (Or.inl rfl)
          · rcases y with _ | b
            · exact Or.inl (Or.inr (Or.inl rfl))
            · rcases z with _ | c
              · exact Or.inl (Or.inr (Or.inr rfl))
              · exact Or.inr ⟨a, b, c, rfl, rfl, rfl⟩
        rcases main with hno | ⟨a, b, c, rfl, rfl, rfl⟩
        · have hr : Hid (datV s.data.toList = none) := Lib.hid (dat_none (by
            rw [E]
            rcases x with _ | a
            · rfl
            · rcases y with _ | b
              · rfl
              · rcases z with _ | c
                · rfl
                · simp at hno))
          clear E
          generalize datV s.data.toList = o at *
          have hbs : x.isSome = false ∨ (x.isSome = true ∧ y.isSome = false) ∨ (x.isSome = true ∧ y.isSome = true ∧ z.isSome = false) := by
            rcases x with _ | a
            · exact Or.inl rfl
            · rcases y with _ | b
              · exact Or.inr (Or.inl ⟨rfl, rfl⟩)
              · rcases z with _ | c
                · exact Or.inr (Or.inr ⟨rfl, rfl, rfl⟩)
                · simp at hno
          clear hno HA HB HD
          generalize ((x.getD 0 : Nat) : Int) = xv at *
          generalize ((y.getD 0 : Nat) : Int) = yv at *
          generalize ((z.getD 0 : Nat) : Int) = zv at *
          generalize x.isSome = xb at *
          generalize y.isSome = yb at *
          generalize z.isSome = zb at *
          rcases hbs with hx | ⟨hx, hy⟩ | ⟨hx, hy, hz⟩
          all_goals (
            go_enter Tryd.func44, Tryd.ntmps44
            go_wp2_with fail
            refine C1.out.mono ?_
            rintro e w1 ⟨rfl, b1⟩
            have B1 := Lib.hid b1
            clear b1
            go_wp2_with fail
            refine (C2 _).out.mono ?_
            rintro e w2 ⟨rfl, b2⟩
            have B2 := Lib.hid (bt B1.out b2)
            clear b2
            go_wp2_with fail
            refine (C3 _).out.mono ?_
            rintro e w3 ⟨rfl, b3⟩
            have B3 := Lib.hid (bt B2.out b3)
            clear b3
            go_wp2_with fail
            go_ret2
            exact ⟨ret_o hr.out.symm rfl rfl, B3.out⟩)
        · have a1 := HA.out a rfl
          have b1 := HB.out b rfl
          have c1 := HD.out c rfl
          have hr : Hid (datV s.data.toList = ymd a b c) := Lib.hid (dat_some E)
          clear E HA HB HD
          generalize datV s.data.toList = o at *
          by_cases hD : Dy.isD a b c
          · have hr2 : Hid (o = some (Dy.num a b + c - 1)) := Lib.hid (hr.out.trans (ymd_y hD))
            have C4 := fun W => Lib.hid (l02Number_yes a b c W hD)
            clear hD
            go_enter Tryd.func44, Tryd.ntmps44
            go_wp2_with fail
            refine C1.out.mono ?_
            rintro e w1 ⟨rfl, b1⟩
            have B1 := Lib.hid b1
            clear b1
            go_wp2_with fail
            refine (C2 _).out.mono ?_
            rintro e w2 ⟨rfl, b2⟩
            have B2 := Lib.hid (bt B1.out b2)
            clear b2
            go_wp2_with fail
            refine (C3 _).out.mono ?_
            rintro e w3 ⟨rfl, b3⟩
            have B3 := Lib.hid (bt B2.out b3)
            clear b3
            go_wp2_with fail
            refine (C4 _).out.mono ?_
            rintro e w4 ⟨rfl, b4⟩
            have B4 := Lib.hid (bt B3.out b4)
            clear b4
            go_wp2_with fail
            go_ret2
            exact ⟨ret_o hr2.out.symm rfl rfl, B4.out⟩
          · have hr2 : Hid (o = none) := Lib.hid (hr.out.trans (ymd_n hD))
            have C4 := fun W => Lib.hid (l02Number_no a b c W hD)
            clear hD
            go_enter Tryd.func44, Tryd.ntmps44
            go_wp2_with fail
            refine C1.out.mono ?_
            rintro e w1 ⟨rfl, b1⟩
            have B1 := Lib.hid b1
            clear b1
            go_wp2_with fail
            refine (C2 _).out.mono ?_
            rintro e w2 ⟨rfl, b2⟩
            have B2 := Lib.hid (bt B1.out b2)
            clear b2
            go_wp2_with fail
            refine (C3 _).out.mono ?_
            rintro e w3 ⟨rfl, b3⟩
            have B3 := Lib.hid (bt B2.out b3)
            clear b3
            go_wp2_with fail
            refine (C4 _).out.mono ?_
            rintro e w4 ⟨rfl, b4⟩
            have B4 := Lib.hid (bt B3.out b4)
            clear b4
            go_wp2_with fail
            go_ret2
            exact ⟨ret_o hr2.out.symm rfl rfl, B4.out⟩
      · have t7 : (((s[7]'p7).toNat : Int) != 45) = true := by
          rw [bne_iff_ne]; intro h; apply hc7; apply UInt8.toNat_inj.1; show _ = 45; omega
        have hr : Hid (datV s.data.toList = none) := Lib.hid (dat_none (fl3_sep (Or.inr (by rw [hat7]; intro h; exact hc7 (Option.some.inj h)))))
        clear hsl hat4 hat7 hc4 hc7
        go_enter Tryd.func44, Tryd.ntmps44
        go_wp2
        go_ret2
        exact ⟨ret_o hr.out.symm rfl rfl, Below.refl _ _⟩
    · have t4 : (((s[4]'p4).toNat : Int) != 45) = true := by
        rw [bne_iff_ne]; intro h; apply hc4; apply UInt8.toNat_inj.1; show _ = 45; omega
      have hr : Hid (datV s.data.toList = none) := Lib.hid (dat_none (fl3_sep (Or.inl (by rw [hat4]; intro h; exact hc4 (Option.some.inj h)))))
      clear hsl hat4 hat7 hc4
      go_enter Tryd.func44, Tryd.ntmps44
      go_wp2
      go_ret2
      exact ⟨ret_o hr.out.symm rfl rfl, Below.refl _ _⟩
  · have t1 : ((s.size : Int) != 10) = true := by rw [bne_iff_ne]; omega
    have hr : Hid (datV s.data.toList = none) := Lib.hid (dat_none (fl3_len (by rw [hsl]; exact h5)))
    clear hsl h5
    go_enter Tryd.func44, Tryd.ntmps44
    go_wp2
    go_ret2
    exact ⟨ret_o hr.out.symm rfl rfl, Below.refl _ _⟩
set_option maxHeartbeats 800000 in
theorem specReadDate_any (s : ByteArray) (w : World) (hs : s.size ≤ 1048576) :
    Calls Tryd.prog 19 #[.string s] w fun e w' => e = .returned (.tuple #[.int .i64 ((datV s.data.toList).getD 0), .bool (datV s.data.toList).isSome]) ∧ Below w.heap.size w w' := by
  have C := Lib.hid (l02Read_any s w hs)
  generalize (datV s.data.toList).getD 0 = x at *
  generalize (datV s.data.toList).isSome = y at *
  go_enter Tryd.func19, Tryd.ntmps19
  go_wp2_with fail
  refine C.out.mono ?_
  rintro e w1 ⟨rfl, b1⟩
  have B1 := Lib.hid b1
  clear b1
  go_wp2_with fail
  go_ret2
  exact ⟨rfl, B1.out⟩
set_option maxRecDepth 100000 in
set_option maxHeartbeats 3200000 in
theorem implReadDate_any (s : ByteArray) (w : World) (hs : s.size ≤ 1048576) (hm' : MaxN w) (hM : Months w) :
    Calls Tryd.prog 20 #[.string s] w fun e w' => e = .returned (.tuple #[.int .i64 ((datV s.data.toList).getD 0), .bool (datV s.data.toList).isSome]) ∧ Below w.heap.size w w' := by
  have E : Fd.flds 45 [4, 2, 2] s.data.toList = Fd.rdAll [4, 2, 2] (Lib.splitK [45] 0 2 s.data.toList) := Fd.flds_eq (by decide) [4, 2, 2] _ (by simp)
  have hb0 : Below w.heap.size w (w.alloc (.cells (iv [4, 2, 2]).toArray 3)) := (Below.refl _ _).alloc (Nat.le_refl _) _
  have C : Hid (Calls Tryd.prog 45 #[.string s, .string ⟨#[45]⟩, .slice (some ⟨w.heap.size, 0, none⟩) 3 3] (w.alloc (.cells #[.int .i64 4, .int .i64 2, .int .i64 2] 3)) (RF (w.alloc (.cells #[.int .i64 4, .int .i64 2, .int .i64 2] 3)) (Fd.rdAll [4, 2, 2] (Lib.splitK [45] 0 2 s.data.toList)))) :=
    Lib.hid (readFields_any s 45 [4, 2, 2] _ (w.alloc (.cells (iv [4, 2, 2]).toArray 3)) hs (sl_new w 3 [4, 2, 2]) (by decide) (by decide) (by decide) (hm'.below hb0))
  have HB0 : Hid (Below w.heap.size w (w.alloc (.cells #[.int .i64 4, .int .i64 2, .int .i64 2] 3))) := Lib.hid hb0
  have HL := Lib.hid (fun vs (h : Fd.rdAll [4, 2, 2] (Lib.splitK [45] 0 2 s.data.toList) = some vs) => (Fd.rdAll_len h).2)
  have HS := Lib.hid (fun vs (h : Fd.rdAll [4, 2, 2] (Lib.splitK [45] 0 2 s.data.toList) = some vs) => rdAll_small h (by decide))
  have H0 := Lib.hid (fun (h : Fd.rdAll [4, 2, 2] (Lib.splitK [45] 0 2 s.data.toList) = none) => dat_none (E.trans h))
  have H1 := Lib.hid (fun a b c (h : Fd.rdAll [4, 2, 2] (Lib.splitK [45] 0 2 s.data.toList) = some [a, b, c]) => dat_some (E.trans h))
  have HM := Lib.hid hM
  clear E hb0 hm' hM
  generalize Fd.rdAll [4, 2, 2] (Lib.splitK [45] 0 2 s.data.toList) = x at *
  generalize datV s.data.toList = o at *
  rcases x with _ | vs
  · have hr := Lib.hid (H0.out rfl)
    go_enter Tryd.func20, Tryd.ntmps20
    go_wp2_with fail
    refine C.out.mono ?_
    rintro e w1 ⟨u, rfl, hu, b1⟩
    have B1 := Lib.hid (bt HB0.out b1)
    clear b1 hu
    go_wp2_with fail
    go_ret2
    exact ⟨ret_o hr.out.symm rfl rfl, B1.out⟩
  · have hl := HL.out vs rfl
    match vs, hl with
    | [a, b, c], _ =>
      have a1 := HS.out _ rfl a (by simp)
      have b1 := HS.out _ rfl b (by simp)
      have d1 := HS.out _ rfl c (by simp)
      have hr := Lib.hid (H1.out a b c rfl)
      clear HL HS H0 H1
      by_cases hD : Dy.isD a b c
      · have hr2 : Hid (o = some (Dy.num a b + c - 1)) := Lib.hid (hr.out.trans (ymd_y hD))
        have C4 := fun W hM => Lib.hid (implDayNumber_yes a b c W hM hD)
        clear hD
        go_enter Tryd.func20, Tryd.ntmps20
        go_wp2_with fail
        refine C.out.mono ?_
        rintro e w1 ⟨u, rfl, hu, b1⟩
        have B1 := Lib.hid (bt HB0.out b1)
        obtain ⟨g, cap, rfl, hc⟩ := own_cells hu (by simp [nz])
        have c0 : w1.cell? ⟨g, 0, none⟩ = some (.int .i64 (a : Int)) := hc 0 _ rfl
        have c1 : w1.cell? ⟨g, 1, none⟩ = some (.int .i64 (b : Int)) := hc 1 _ rfl
        have c2 : w1.cell? ⟨g, 2, none⟩ = some (.int .i64 (c : Int)) := hc 2 _ rfl
        have hln : (nz ((some [a, b, c]).getD [])).length = 3 := rfl
        rw [hln]
        clear b1 hu hc hln
        go_wp2_with fail
        go_region_with (refine (C4 _ (by first | exact HM.out.below B1.out | exact HM.out.below (below_drewN B1.out _))).out.mono ?_; rintro e w2 ⟨rfl, rfl⟩)
        all_goals (
          go_wp2
          go_ret2
          exact ⟨ret_o hr2.out.symm rfl rfl, below_drewN B1.out _⟩)
      · have hr2 : Hid (o = none) := Lib.hid (hr.out.trans (ymd_n hD))
        have C4 := fun W hM => Lib.hid (implDayNumber_no a b c W hM hD)
        clear hD
        go_enter Tryd.func20, Tryd.ntmps20
        go_wp2_with fail
        refine C.out.mono ?_
        rintro e w1 ⟨u, rfl, hu, b1⟩
        have B1 := Lib.hid (bt HB0.out b1)
        obtain ⟨g, cap, rfl, hc⟩ := own_cells hu (by simp [nz])
        have c0 : w1.cell? ⟨g, 0, none⟩ = some (.int .i64 (a : Int)) := hc 0 _ rfl
        have c1 : w1.cell? ⟨g, 1, none⟩ = some (.int .i64 (b : Int)) := hc 1 _ rfl
        have c2 : w1.cell? ⟨g, 2, none⟩ = some (.int .i64 (c : Int)) := hc 2 _ rfl
        have hln : (nz ((some [a, b, c]).getD [])).length = 3 := rfl
        rw [hln]
        clear b1 hu hc hln
        go_wp2_with fail
        go_region_with (refine (C4 _ (by first | exact HM.out.below B1.out | exact HM.out.below (below_drewN B1.out _))).out.mono ?_; rintro e w2 ⟨rfl, rfl⟩)
        all_goals (
          go_wp2
          go_ret2
          exact ⟨ret_o hr2.out.symm rfl rfl, below_drewN B1.out _⟩)
end Go.Proofs.YtnflndngkihaaaaDoor

/-
  The walk of the law FnDates and what it stands on: For every two slices of bytes (nil, shared and with spare room too) the law Dates returns true and writes nothing that was there, where impl.monthDays and the library's table of powers of ten hold what their texts lay (tied by the card). No other condition (beyond 2^20 bytes the law itself returns true).
-/
import Derived.Test.YtnflndngkihaaabDoorRows
import Derived.Test.YtnflndngkihaaabDoorDatLaw
import Derived.WalkKit
import Derived.WalkSpells
import Derived.WalkLawsBesides
import Derived.Outline
import Derived.IntWalk
import Derived.Lib.Hide
import Derived.ProofKit
import Derived.OpenShut
import Derived.ShutString
import Derived.ChangeOld
import Derived.ChangeVars
import Derived.Below
import Derived.WalkSmall
import Derived.Lib.LaidTab
import Derived.LaidMore
import Derived.LaidSub
namespace Go.Proofs.YtnflndngkihaaabDoor.fnDates
open Go.ChangeShapes Go.WideShapes Go.ChangeAt Go.RowKit
open Go.ChangeMaps (open_string shut_string)
set_option linter.unusedVariables false
def IsRow (k : IntKind) (w : World) (a : Option Addr) (len cap : Nat) (zs : List Int) : Prop :=
  (a = none ∧ len = 0 ∧ cap = 0 ∧ zs = []) ∨
  ∃ x, a = some x ∧ len ≤ cap ∧ cap ≤ maxLen ∧ zs.length = cap ∧ (∀ i, i < zs.length → w.cell? (x.add i) = some (.int k (zs.getD i 0))) ∧ ∀ n ∈ zs, (Lit.int k n).wf = true
set_option maxRecDepth 100000
set_option maxHeartbeats 6400000
theorem walk (a0 : Option Addr) (len0 cap0 : Nat) (z0 : List Int) (a1 : Option Addr) (len1 cap1 : Nat) (z1 : List Int) (w : World) (w0 : IsRow .u8 w a0 len0 cap0 z0) (w1 : IsRow .u8 w a1 len1 cap1 z1) (hL : laidMetH Tryd.prog Rows.fnDatesRow.laid w) (hsh : w.ShapedOpen Tryd.prog) :
    Calls Tryd.prog 6 #[.slice a0 len0 cap0, .slice a1 len1 cap1] w fun e w' => e = .returned (.bool true) ∧ Below w.heap.size w w' := by
  by_cases hb0 : len0 ≤ 1048576
  · by_cases hb1 : len1 ≤ 1048576
    · have HP := Lib.hid (pow_of hL (by kernel_rfl))
      have HT := Lib.hid (months_of hL (by kernel_rfl))
      have HM := Lib.hid (maxN_of hsh)
      have V0 := Lib.hid (bs_of_row w0)
      have V1 := Lib.hid (bs_of_row w1)
      clear hL hsh w0 w1
      go_enter Tryd.func6, Tryd.ntmps6
      go_wp2_with fail
      refine (b10Long_no w _ len0 _ hb0).mono ?_
      rintro e w' ⟨rfl, rfl⟩
      go_wp2_with fail
      refine (b10Long_no w _ len1 _ hb1).mono ?_
      rintro e w' ⟨rfl, rfl⟩
      go_wp2_with fail
      refine (drawDateOf_any w _ len0 V0.out hb0).mono ?_
      rintro e w1 ⟨x, rfl, x0, x1, b1⟩
      have B1 := Lib.hid b1
      clear b1 V0
      by_cases hx : 0 ≤ x ∧ x ≤ 36524
      · obtain ⟨h1, h2⟩ := hx
        have C1 := fun W hM => Lib.hid (implDateOf_in x W hM h1 h2)
        have C3 := fun W hM hp => Lib.hid (implDateText_in x W hM hp h1 h2)
        have C5 := fun W => Lib.hid (implWeekdayOf_any x W)
        have C6 := fun W => Lib.hid (implWeekdayOf_any (x + 1) W)
        have i1 := Ar.inB_t (l := 0) (x := x) (h := 36524) h1 h2
        have hw := wday_bd x
        have hw1 := Lib.hid (wday_next x)
        rw [i1] at C5
        have hxx : (x != x) = false := bne_self_eq_false' _
        go_wp2_with fail
        refine (C1 _ (HT.out.below B1.out)).out.mono ?_
        rintro e w2 ⟨y, m, d, hd, hn, rfl, b2⟩
        have B2 := Lib.hid (bt B1.out b2)
        have C2 := fun W hM => Lib.hid (implDayNumber_yes y m d W hM hd)
        rw [num_back hn] at C2
        clear hd hn b2
        go_wp2_with fail
        refine (C2 _ (HT.out.below B2.out)).out.mono ?_
        rintro e w3 ⟨rfl, rfl⟩
        go_wp2_with fail
        refine (C3 _ (HT.out.below B2.out) (HP.out.below B2.out)).out.mono ?_
        rintro e w4 ⟨y', m', d', hd, hn, s, rfl, hs, -, b4⟩
        have B4 := Lib.hid (bt B2.out b4)
        obtain ⟨hv, hl⟩ := dat_back hd hn hs
        have hsz : s.size ≤ 1048576 := by
          have : s.data.toList.length = s.size := by simp
          omega
        have C4 := fun W hM hT => Lib.hid (implReadDate_any s W hsz hM hT)
        rw [hv] at C4
        clear hd hn hs b4 hv hl
        go_wp2_with fail
        refine (C4 _ (HM.out.below B4.out) (HT.out.below B4.out)).out.mono ?_
        rintro e w5 ⟨rfl, b5⟩
        have B5 := Lib.hid (bt B4.out b5)
        clear b5
        go_wp2_with fail
        refine (C5 _).out.mono ?_
        rintro e w6 ⟨rfl, rfl⟩
        rw [rv_t, rc_t]
        obtain ⟨g1, g2⟩ := hw
        generalize wday x = q at *
        generalize wday (x + 1) = q1 at *
        go_wp2_with fail
        refine (C6 _).out.mono ?_
        rintro e w7 ⟨rfl, rfl⟩
        have hq : (q1 != (q + 1) % 7) = false := by rw [hw1.out]; exact bne_self_eq_false' _
        have V2 := Lib.hid (bs_up V1.out B5.out)
        clear V1
        rcases in_cases 0 (x + 1) 36524 with ⟨j1, j2, i2⟩ | ⟨-, i2⟩
        · rw [i2, rv_t, rc_t]
          go_wp2_with fail
          refine (drawHour_any _ _ len1 V2.out hb1).mono ?_
          rintro e w8 ⟨dd, hh, rfl, y0, y1, z0, z1, b8⟩
          have B8 := Lib.hid (bt B5.out b8)
          clear b8 V2
          have C7 := fun W => Lib.hid (implHourNumber_any dd hh W)
          rcases in_cases 0 dd 36524 with ⟨p1, p2, pi⟩ | ⟨-, pi⟩
          · rcases in_cases 0 hh 23 with ⟨k1, k2, ki⟩ | ⟨-, ki⟩
            · rw [two_t pi ki] at C7
              obtain ⟨g3, g4⟩ := hr_back (d := dd) k1 k2
              have g5 : (hh % 24 == hh) = true := by rw [beq_iff_eq]; omega
              go_wp2_with fail
              refine (C7 _).out.mono ?_
              rintro e w9 ⟨rfl, rfl⟩
              rw [rv_t, rc_t]
              go_wp2_with fail
              go_ret
              exact ⟨rfl, B8.out⟩
            · rw [two_f (Or.inr ki)] at C7
              go_wp2_with fail
              refine (C7 _).out.mono ?_
              rintro e w9 ⟨rfl, rfl⟩
              rw [rv_f, rc_f]
              go_wp2_with fail
              go_ret
              exact ⟨rfl, B8.out⟩
          · rw [two_f (Or.inl pi)] at C7
            go_wp2_with fail
            refine (C7 _).out.mono ?_
            rintro e w9 ⟨rfl, rfl⟩
            rw [rv_f, rc_f]
            go_wp2_with fail
            go_ret
            exact ⟨rfl, B8.out⟩
        · rw [i2, rv_f, rc_f]
          go_wp2_with fail
          refine (drawHour_any _ _ len1 V2.out hb1).mono ?_
          rintro e w8 ⟨dd, hh, rfl, y0, y1, z0, z1, b8⟩
          have B8 := Lib.hid (bt B5.out b8)
          clear b8 V2
          have C7 := fun W => Lib.hid (implHourNumber_any dd hh W)
          rcases in_cases 0 dd 36524 with ⟨p1, p2, pi⟩ | ⟨-, pi⟩
          · rcases in_cases 0 hh 23 with ⟨k1, k2, ki⟩ | ⟨-, ki⟩
            · rw [two_t pi ki] at C7
              obtain ⟨g3, g4⟩ := hr_back (d := dd) k1 k2
              have g5 : (hh % 24 == hh) = true := by rw [beq_iff_eq]; omega
              go_wp2_with fail
              refine (C7 _).out.mono ?_
              rintro e w9 ⟨rfl, rfl⟩
              rw [rv_t, rc_t]
              go_wp2_with fail
              go_ret
              exact ⟨rfl, B8.out⟩
            · rw [two_f (Or.inr ki)] at C7
              go_wp2_with fail
              refine (C7 _).out.mono ?_
              rintro e w9 ⟨rfl, rfl⟩
              rw [rv_f, rc_f]
              go_wp2_with fail
              go_ret
              exact ⟨rfl, B8.out⟩
          · rw [two_f (Or.inl pi)] at C7
            go_wp2_with fail
            refine (C7 _).out.mono ?_
            rintro e w9 ⟨rfl, rfl⟩
            rw [rv_f, rc_f]
            go_wp2_with fail
            go_ret
            exact ⟨rfl, B8.out⟩
      · have C1 := fun W => Lib.hid (implDateOf_out x W hx)
        have C3 := fun W => Lib.hid (implDateText_out x W hx)
        clear hx
        go_wp2_with fail
        refine (C1 _).out.mono ?_
        rintro e w2 ⟨rfl, rfl⟩
        go_wp2_with fail
        refine (C3 _).out.mono ?_
        rintro e w3 ⟨s, rfl, hs, -, b3⟩
        have B3 := Lib.hid (bt B1.out b3)
        obtain rfl : s = ⟨#[]⟩ := str_eq hs
        clear b3 hs
        go_wp2_with fail
        go_ret
        exact ⟨rfl, B3.out⟩
    · have V1 := hb1
      clear hL hsh w0 w1
      go_enter Tryd.func6, Tryd.ntmps6
      go_wp2_with fail
      refine (b10Long_no w _ len0 _ hb0).mono ?_
      rintro e w' ⟨rfl, rfl⟩
      go_wp2_with fail
      refine (b10Long_yes w _ len1 _ (by omega)).mono ?_
      rintro e w' ⟨rfl, rfl⟩
      go_wp2_with fail
      go_ret
      exact ⟨rfl, Below.refl _ _⟩
  · clear hL hsh w0 w1
    go_enter Tryd.func6, Tryd.ntmps6
    go_wp2_with fail
    refine (b10Long_yes w _ len0 _ (by omega)).mono ?_
    rintro e w' ⟨rfl, rfl⟩
    go_wp2_with fail
    go_ret
    exact ⟨rfl, Below.refl _ _⟩
end Go.Proofs.YtnflndngkihaaabDoor.fnDates

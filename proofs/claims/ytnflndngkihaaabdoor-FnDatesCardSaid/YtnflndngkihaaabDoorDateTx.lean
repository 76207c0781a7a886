/-
  DateText of chapter 2, by the program and by the model. The library's and the program's tables hold what the text lays.
-/
import Derived.Test.YtnflndngkihaaabDoorTexts
import Derived.Test.YtnflndngkihaaabDoorDate3
namespace Go.Proofs.YtnflndngkihaaabDoor
open Go.RowKit
set_option linter.unusedVariables false

/-- a date as text -/
def dtx (y m d : Int) : List UInt8 := Lib.decDigits y.toNat ++ 45 :: (Dg.zpad 2 m.toNat ++ 45 :: Dg.zpad 2 d.toNat)
/-- how the text of a day comes back -/
def DateStr (day : Int) (w : World) (e : Ending) (w' : World) : Prop := ∃ y m d : Int, Dy.isD y m d ∧ Dy.num y m + d = day + 1 ∧ Str (dtx y m d) w e w'
theorem isD_bd {y m d : Int} (h : Dy.isD y m d) : (2000 ≤ y ∧ y ≤ 2099) ∧ (1 ≤ m ∧ m ≤ 12) ∧ 1 ≤ d ∧ d ≤ 31 := by
  obtain ⟨a, b, c, e⟩ := h
  have := (Dy.dom_bd y m).2
  exact ⟨a, b, c, by omega⟩
theorem tx_app (y m d : ByteArray) {a b c : List UInt8} (h1 : y.data.toList = a) (h2 : m.data.toList = b) (h3 : d.data.toList = c) : (y ++ ⟨#[45]⟩ ++ m ++ ⟨#[45]⟩ ++ d : ByteArray).data.toList = a ++ 45 :: (b ++ 45 :: c) := by
  rw [app_data, app_data, app_data, app_data, h1, h2, h3]
  simp
set_option maxHeartbeats 1600000 in
theorem implDateText_in (day : Int) (w : World) (hM : Months w) (hp : Pow w) (h1 : 0 ≤ day) (h2 : day ≤ 36524) :
    Calls Tryd.prog 21 #[.int .i64 day] w (DateStr day w) := by
  have C := Lib.hid (implDateOf_in day w hM h1 h2)
  have HP := Lib.hid hp
  clear h1 h2 hM hp
  go_enter Tryd.func21, Tryd.ntmps21
  go_wp2_with fail
  refine C.out.mono ?_
  rintro e w1 ⟨y, m, d, hd, hn, rfl, b1⟩
  have H := Lib.hid hd
  have N := Lib.hid hn
  have B1 := Lib.hid b1
  obtain ⟨⟨y1, y2⟩, ⟨m1, m2⟩, d1, d2⟩ := isD_bd hd
  have C1 := fun W hp => Lib.hid (implDecimal_any y W (by omega) (by omega) hp)
  have C2 := fun W hp => Lib.hid (padded_any m 2 W hp (by omega) (by omega) (by omega))
  have C3 := fun W hp => Lib.hid (padded_any d 2 W hp (by omega) (by omega) (by omega))
  have hi := Lib.hid (itoa_int (z := y) (by omega))
  clear hd hn b1
  go_wp2_with fail
  refine (C1 _ (HP.out.below B1.out)).out.mono ?_
  rintro e w2 ⟨rfl, b2⟩
  have B2 := Lib.hid (tbt B1.out b2)
  obtain ⟨s0, hr⟩ : ∃ t : ByteArray, t = ⟨(Lib.itoa y).toArray⟩ := ⟨_, rfl⟩
  rw [← hr]
  have hrd : s0.data.toList = Lib.decDigits y.toNat := by rw [hr, mk_data, hi.out]
  have hrs : s0.size ≤ 13 := by
    have : s0.data.toList.length = s0.size := by simp
    have := Dg.dec_len_le 13 y.toNat (by omega) (by omega)
    rw [← hrd] at this; omega
  have D0 := Lib.hid hrd
  clear b2 hr hrd
  go_wp2_with fail
  refine (C2 _ (HP.out.below B2.out)).out.mono ?_
  rintro e w3 ⟨s1, rfl, e1, z1, b3⟩
  have B3 := Lib.hid (tbt B2.out b3)
  have D1 := Lib.hid e1
  have z1' : s1.size ≤ 20 := Nat.le_trans z1 (Nat.le_trans (zpad_len _ _ (by omega)) (by omega))
  clear b3 e1 z1
  go_wp2_with fail
  refine (C3 _ (HP.out.below B3.out)).out.mono ?_
  rintro e w4 ⟨s2, rfl, e2, z2, b4⟩
  have B4 := Lib.hid (tbt B3.out b4)
  have D2 := Lib.hid e2
  have z2' : s2.size ≤ 20 := Nat.le_trans z2 (Nat.le_trans (zpad_len _ _ (by omega)) (by omega))
  clear b4 e2 z2
  go_wp2_with fail
  go_ret
  exact ⟨y, m, d, H.out, N.out, Str.mk (tx_app _ _ _ D0.out D1.out D2.out) B4.out⟩
set_option maxHeartbeats 800000 in
theorem implDateText_out (day : Int) (w : World) (h : ¬ (0 ≤ day ∧ day ≤ 36524)) :
    Calls Tryd.prog 21 #[.int .i64 day] w (Str [] w) := by
  have C := Lib.hid (implDateOf_out day w h)
  clear h
  go_enter Tryd.func21, Tryd.ntmps21
  go_wp2_with fail
  refine C.out.mono ?_
  rintro e w1 ⟨rfl, rfl⟩
  go_wp2_with fail
  go_ret
  exact Str.mk rfl (Below.refl _ _)
end Go.Proofs.YtnflndngkihaaabDoor

/-
  Chapter 2's texts: numbers with zeros in front, clocks and dates, by the program and by the model. The library's and the program's tables hold what the text lays.
-/
import Derived.Test.YtommcckihanedaaGreatDoorTab
import Derived.Test.YtommcckihanedaaGreatDoorUnits
import Derived.Test.YtommcckihanedaaGreatDoorFld
import Derived.Lib.Repeat
namespace Go.Proofs.YtommcckihanedaaGreatDoor
open Go.RowKit
set_option linter.unusedVariables false

theorem tbt {w w1 w2 : World} (h1 : Below w.heap.size w w1) (h2 : Below w1.heap.size w1 w2) : Below w.heap.size w w2 := h1.trans (h2.mono h1.size)
theorem str_eq {a b : ByteArray} (h : a.data.toList = b.data.toList) : a = b := by
  obtain ⟨⟨x⟩⟩ := a
  obtain ⟨⟨y⟩⟩ := b
  have : x = y := h
  rw [this]
theorem ret_s {a b : ByteArray} (h : a.data.toList = b.data.toList) : Ending.returned (.string a) = .returned (.string b) := by rw [str_eq h]
theorem itoa_nat (n : Nat) : Lib.itoa (n : Int) = Lib.decDigits n := by unfold Lib.itoa; rw [if_neg (by omega), Int.toNat_natCast]
theorem rep48 (c : Nat) : Lib.repeatL [48] c = List.replicate c 48 := by
  have := Lib.repeatL_replicate 48 1 c
  rwa [Nat.mul_one] at this
theorem app_data (a b : ByteArray) : (a ++ b).data.toList = a.data.toList ++ b.data.toList := by simp
theorem mk_data (l : List UInt8) : (⟨l.toArray⟩ : ByteArray).data.toList = l := by simp
theorem itoa_int {z : Int} (h : 0 ≤ z) : Lib.itoa z = Lib.decDigits z.toNat := by unfold Lib.itoa; rw [if_neg (by omega)]
/-- a call that returns these bytes as a string -/
def Str (l : List UInt8) (w : World) (e : Ending) (w' : World) : Prop := ∃ t : ByteArray, e = .returned (.string t) ∧ t.data.toList = l ∧ t.size ≤ l.length ∧ Below w.heap.size w w'
theorem Str.mk {l : List UInt8} {w w' : World} {t : ByteArray} (h : t.data.toList = l) (hb : Below w.heap.size w w') : Str l w (.returned (.string t)) w' := ⟨t, rfl, h, by rw [← h]; simp, hb⟩
theorem zpad_len (k n : Nat) (hn : n ≤ 1000000000000) : (Dg.zpad k n).length ≤ k + 13 := by
  have := Dg.dec_len_le 13 n (by omega) (by omega)
  unfold Dg.zpad; rw [List.length_append, List.length_replicate]; omega
set_option maxHeartbeats 1600000 in
theorem padded_any (z : Int) (k : Nat) (w : World) (hp : Pow w) (h0 : 0 ≤ z) (hn : z ≤ 1000000000000) (hk : k ≤ 100) :
    Calls Tryz.prog 22 #[.int .i64 z, .int .i64 k] w (Str (Dg.zpad k z.toNat) w) := by
  have C := Lib.hid (implDecimal_any z w (by omega) (by omega) hp)
  obtain ⟨s, hs⟩ : ∃ s : ByteArray, s = ⟨(Lib.itoa z).toArray⟩ := ⟨_, rfl⟩
  rw [← hs] at C
  have hd : s.data.toList = Lib.decDigits z.toNat := by rw [hs, itoa_int h0]
  have hl : s.size = (Lib.decDigits z.toNat).length := by rw [← hd]; simp
  have hlen := Dg.dec_len_le 13 z.toNat (by omega) (by omega)
  have HD := Lib.hid hd
  have HL := Lib.hid hl
  rw [← hl] at hlen
  clear hs hd hl hp
  go_enter Tryz.func22, Tryz.ntmps22
  go_wp2_with fail
  refine C.out.mono ?_
  rintro e w1 ⟨rfl, b1⟩
  have B1 := Lib.hid b1
  clear b1
  have hm : max 0 ((k : Int) - s.size) = ((k - s.size : Nat) : Int) := by omega
  go_wp2_with fail
  refine (Tryz.strings_Repeat ⟨#[48]⟩ (k - s.size) _ (by omega) (by show 1 * _ ≤ _; omega)).mono ?_
  rintro e w2 ⟨rfl, b2⟩
  have B2 := Lib.hid (tbt B1.out b2)
  obtain ⟨r, hr⟩ : ∃ r : ByteArray, r = ⟨(Lib.repeatL (⟨#[48]⟩ : ByteArray).data.toList (k - s.size)).toArray⟩ := ⟨_, rfl⟩
  rw [← hr]
  have hrd : r.data.toList = List.replicate (k - s.size) 48 := by rw [hr, mk_data]; exact rep48 _
  have hrs : r.size ≤ 100 := by
    have : r.data.toList.length = r.size := by simp
    rw [hrd, List.length_replicate] at this; omega
  have HR := Lib.hid hrd
  clear b2 hm hr hrd
  go_wp2_with fail
  go_ret
  refine Str.mk ?_ B2.out
  rw [app_data, HD.out, HR.out, HL.out]; rfl
/-- a minute as text -/
def clk (m : Int) : List UInt8 := if 0 ≤ m ∧ m ≤ 1439 then Dg.zpad 2 (m / 60).toNat ++ 58 :: Dg.zpad 2 (m % 60).toNat else []
theorem clk_in {m : Int} (h1 : 0 ≤ m) (h2 : m ≤ 1439) : clk m = Dg.zpad 2 (m / 60).toNat ++ 58 :: Dg.zpad 2 (m % 60).toNat := by unfold clk; rw [if_pos ⟨h1, h2⟩]
theorem clk_out {m : Int} (h : ¬ (0 ≤ m ∧ m ≤ 1439)) : clk m = [] := by unfold clk; rw [if_neg h]
set_option maxHeartbeats 800000 in
theorem implClockText_any (m : Int) (w : World) (hp : Pow w) :
    Calls Tryz.prog 6 #[.int .i64 m] w (Str (clk m) w) := by
  rcases in_cases 0 m 1439 with ⟨h1, h2, hi⟩ | ⟨hn, hi⟩
  · have C1 := fun W hp => Lib.hid (padded_any (m / 60) 2 W hp (by omega) (by omega) (by omega))
    have C2 := fun W hp => Lib.hid (padded_any (m % 60) 2 W hp (by omega) (by omega) (by omega))
    have hc := Lib.hid (clk_in h1 h2)
    have HP := Lib.hid hp
    clear hp
    go_enter Tryz.func6, Tryz.ntmps6
    go_wp2_with (go_at_call 21; refine (within_any _ _ _ _).mono ?_; rintro e w' ⟨rfl, rfl⟩)
    refine (C1 _ HP.out).out.mono ?_
    rintro e w1 ⟨s1, rfl, d1, z1, b1⟩
    have B1 := Lib.hid b1
    have D1 := Lib.hid d1
    have z1' : s1.size ≤ 20 := Nat.le_trans z1 (Nat.le_trans (zpad_len _ _ (by omega)) (by omega))
    clear b1 d1 z1
    go_wp2_with fail
    refine (C2 _ (HP.out.below B1.out)).out.mono ?_
    rintro e w2 ⟨s2, rfl, d2, z2, b2⟩
    have B2 := Lib.hid (tbt B1.out b2)
    have D2 := Lib.hid d2
    have z2' : s2.size ≤ 20 := Nat.le_trans z2 (Nat.le_trans (zpad_len _ _ (by omega)) (by omega))
    clear b2 d2 z2
    go_wp2_with fail
    go_ret
    refine Str.mk ?_ B2.out
    rw [hc.out, app_data, app_data, D1.out, D2.out, List.append_assoc]; rfl
  · have hc := Lib.hid (clk_out hn)
    clear hn hp
    go_enter Tryz.func6, Tryz.ntmps6
    go_wp2_with (go_at_call 21; refine (within_any _ _ _ _).mono ?_; rintro e w' ⟨rfl, rfl⟩)
    go_ret
    exact Str.mk (by rw [hc.out]) (Below.refl _ _)
end Go.Proofs.YtommcckihanedaaGreatDoor

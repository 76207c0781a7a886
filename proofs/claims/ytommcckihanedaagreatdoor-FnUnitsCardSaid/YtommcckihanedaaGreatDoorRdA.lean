/-
  Digits read: one digit, a text of digits (the model's), a text of so many digits (the program's). No condition of its own.
-/
import Derived.Test.YtommcckihanedaaGreatDoorFld
import Derived.Test.YtommcckihanedaaGreatDoorInts
import Derived.Test.YtommcckihanedaaGreatDoorSplit
import Derived.Test.YtommcckihanedaaGreatDoorUnits
namespace Go.Proofs.YtommcckihanedaaGreatDoor
open Go.RowKit
set_option linter.unusedVariables false

set_option maxHeartbeats 400000 in
theorem withinB_any (x l h : Int) (w : World) :
    Calls Tryz.prog 76 #[.int .u8 x, .int .u8 l, .int .u8 h] w fun e w' => e = .returned (.bool (Ar.inB l x h)) ∧ w = w' := by
  by_cases h1 : l ≤ x
  · go_enter Tryz.func76, Tryz.ntmps76
    go_wp2
    go_ret
    exact ⟨ret_bool (by unfold Ar.inB; simp [h1]), rfl⟩
  · go_enter Tryz.func76, Tryz.ntmps76
    go_wp2
    go_ret
    exact ⟨ret_bool (by rw [Ar.inB_f]; omega), rfl⟩
theorem dg_in (c : UInt8) : Ar.inB 48 (c.toNat : Int) 57 = Nu.dgB c := by
  unfold Ar.inB Nu.dgB; rw [Bool.eq_iff_iff]; simp; omega
set_option maxHeartbeats 400000 in
theorem isDigit_any (c : UInt8) (w : World) :
    Calls Tryz.prog 58 #[.int .u8 c.toNat] w fun e w' => e = .returned (.bool (Nu.dgB c)) ∧ w = w' := by
  have hd := Lib.hid (dg_in c)
  go_enter Tryz.func58, Tryz.ntmps58
  go_wp2_with (go_at_call 76; refine (withinB_any _ _ _ _).mono ?_; rintro e w' ⟨rfl, rfl⟩)
  go_ret
  exact ⟨ret_bool hd.out, rfl⟩
theorem ret_nb {o o' : Option Nat} (h : o' = o) {v : Int} {b : Bool} (hv : ((o'.getD 0 : Nat) : Int) = v) (hb : o'.isSome = b) : Ending.returned (.tuple #[.int .i64 v, .bool b]) = .returned (.tuple #[.int .i64 ((o.getD 0 : Nat) : Int), .bool o.isSome]) := by
  subst h; rw [hv, hb]
theorem tk_snoc {s : ByteArray} {j : Nat} (h : j < s.size) : s.data.toList.take (j + 1) = s.data.toList.take j ++ [s[j]] := by
  rw [List.take_succ_eq_append_getElem (by simpa using h)]; rfl
theorem all_tk_f {l : List UInt8} {k : Nat} (h : (l.take k).all Nu.dgB = false) : l.all Nu.dgB = false := by
  rw [← List.take_append_drop k l, List.all_append, h]; rfl
theorem val_small {l : List UInt8} {j n : Nat} (h : (l.take j).all Nu.dgB = true) (hv : Nu.val (l.take j) = n) (hj : j ≤ 4) : n ≤ 9999 := by
  have h1 := Nu.val_lt _ h
  rw [hv] at h1
  have h2 : (l.take j).length ≤ 4 := by simp; omega
  have h3 := Nat.pow_le_pow_right (n := 10) (by omega) h2
  omega
theorem rd1_full {l : List UInt8} {n : Nat} (hl : l.length = n) : (l.all Nu.dgB = true → Fd.rd1 n l = some (Nu.val l)) ∧ (l.all Nu.dgB = false → Fd.rd1 n l = none) :=
  ⟨fun h => Fd.rd1_some hl h, fun h => Fd.rd1_none (fun h2 => by rw [h] at h2; exact Bool.noConfusion h2.2)⟩


set_option maxHeartbeats 1600000 in
theorem readDigits_any (s : ByteArray) (k : Nat) (w : World) (hk : k ≤ 4) (hs : s.size ≤ 1048576) :
    Calls Tryz.prog 42 #[.string s, .int .i64 k] w fun e w' => e = .returned (.tuple #[.int .i64 (((Fd.rd1 k s.data.toList).getD 0 : Nat) : Int), .bool (Fd.rd1 k s.data.toList).isSome]) ∧ Below w.heap.size w w' := by
  have hsz : s.data.toList.length = s.size := by simp
  by_cases hlen : s.size = k
  · have HR := Lib.hid (rd1_full (hsz.trans hlen))
    have HL := Lib.hid hsz
    subst hlen
    clear hsz
    generalize Fd.rd1 s.size s.data.toList = o at *
    go_enter Tryz.func42, Tryz.ntmps42
    go_wp2
    go_loopw [6, 14] (fun x y wr => ∃ j n : Nat, j ≤ s.size ∧ y = .int .i64 (j : Int) ∧ x = .int .i64 n ∧ n ≤ 9999 ∧ Hid ((s.data.toList.take j).all Nu.dgB = true) ∧ Hid (Nu.val (s.data.toList.take j) = n) ∧ ∃ q, wr = w.drewN q) (fun _ y _ => s.size - (intOf y).toNat)
    case atStart => exact ⟨0, 0, Nat.zero_le _, rfl, rfl, by omega, Lib.hid rfl, Lib.hid rfl, 0, rfl⟩
    case round =>
      obtain ⟨j, n, hj, rfl, rfl, hn, hall, hval, q, rfl⟩ := hrel
      by_cases hlt : j < s.size
      · have hts := tk_snoc hlt
        by_cases hd : Nu.dgB (s[j]'hlt) = true
        · have hdd := (Nu.dgB_iff _).1 hd
          have H1 : Hid ((s.data.toList.take (j + 1)).all Nu.dgB = true) := Lib.hid (by rw [hts, List.all_append, hall.out]; simp [hd])
          have H2 : Hid (Nu.val (s.data.toList.take (j + 1)) = n * 10 + ((s[j]'hlt).toNat - 48)) := Lib.hid (by rw [hts, Nu.val_snoc, hval.out])
          have hn2 := val_small H1.out H2.out (by omega)
          have d1 : (48 : Int) ≤ (s[j]'hlt).toNat := by omega
          have d2 : ((s[j]'hlt).toNat : Int) ≤ 57 := by omega
          clear hts hdd
          go_wp2_with (go_at_call 58; refine (isDigit_any _ _).mono ?_; rintro e w' ⟨rfl, rfl⟩)
          refine ⟨⟨j + 1, n * 10 + ((s[j]'hlt).toNat - 48), by omega, by go_num, ?_, hn2, H1, H2, _, rfl⟩, by simp [intOf]; omega⟩
          rw [show (((n * 10 + ((s[j]'hlt).toNat - 48) : Nat)) : Int) = 10 * (n : Int) + (((s[j]'hlt).toNat : Int) - 48) from by omega]
        · have hd' : Nu.dgB (s[j]'hlt) = false := by simpa using hd
          have hr : Hid (o = none) := Lib.hid (HR.out.2 (all_tk_f (k := j + 1) (by rw [hts, List.all_append]; simp [hd'])))
          clear hts hd
          go_wp2_with (go_at_call 58; refine (isDigit_any _ _).mono ?_; rintro e w' ⟨rfl, rfl⟩)
          go_ret2
          exact ⟨ret_nb hr.out.symm rfl rfl, below_drewN (Below.refl _ _) _⟩
      · have hje : j = s.size := by omega
        have hr : Hid (o = some n) := Lib.hid (by
          have h1 := hall.out
          have h2 := hval.out
          rw [hje, ← HL.out, List.take_length] at h1 h2
          rw [HR.out.1 h1, h2])
        clear hje
        go_wp2
        go_ret2
        exact ⟨ret_nb hr.out.symm rfl rfl, below_drewN (Below.refl _ _) _⟩
  · have hr : Hid (Fd.rd1 k s.data.toList = none) := Lib.hid (Fd.rd1_none (fun h => hlen (hsz.symm.trans h.1)))
    have hl : ((s.size : Int) != (k : Int)) = true := by rw [bne_iff_ne]; omega
    clear hlen hsz
    go_enter Tryz.func42, Tryz.ntmps42
    go_wp2
    go_ret2
    exact ⟨ret_nb hr.out.symm rfl rfl, Below.refl _ _⟩
end Go.Proofs.YtommcckihanedaaGreatDoor

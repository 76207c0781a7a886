/-
  The program's FixedText. The library's table of powers of ten holds what its text lays: no other condition of its own.
-/
import Derived.Test.YtommcckihanedaaGreatDoorFix
namespace Go.Proofs.YtommcckihanedaaGreatDoor
open Go.RowKit
set_option linter.unusedVariables false
set_option linter.unusedSimpArgs false

set_option maxRecDepth 100000 in
set_option maxHeartbeats 6400000 in
theorem implFixedText_in (n : Int) (p : Nat) (w : World) (hp : Pow w) (h1 : -1000000000 ≤ n) (h2 : n ≤ 1000000000) (h3 : 1 ≤ p) (h4 : p ≤ 6) :
    Calls Tryz.prog 9 #[.int .i64 n, .int .i64 p] w (Str (Dg.fx n p) w) := by
  have i1 : Ar.inB (-1000000000) n 1000000000 = true := Ar.inB_t h1 h2
  have i2 : Ar.inB 1 (p : Int) 6 = true := Ar.inB_t (by omega) (by omega)
  have HP := Lib.hid hp
  have ha : n.natAbs ≤ 1000000000 := by omega
  have C := fun W hp => Lib.hid (padded_any ((n.natAbs : Nat) : Int) (p + 1) W hp (by omega) (by omega) (by omega))
  rw [Int.toNat_natCast, show ((p + 1 : Nat) : Int) = (p : Int) + 1 from by omega] at C
  have hzl := zpad_len (p + 1) n.natAbs (by omega)
  have FP := Lib.hid (fx_parts n p)
  have hfx : Hid (∀ l, l = (if n < 0 then [45] else []) ++ Lib.decDigits (n.natAbs / 10 ^ p) ++ 46 :: Dg.pad p (n.natAbs % 10 ^ p) → l = Dg.fx n p) := Lib.hid (fun l h => h)
  generalize Dg.zpad (p + 1) n.natAbs = zs at *
  generalize Lib.decDigits (n.natAbs / 10 ^ p) = dd at *
  generalize Dg.pad p (n.natAbs % 10 ^ p) = rr at *
  have HF := Lib.hid (Lib.fresh_isBuilder 48 5 w)
  have hB0 : Hid (Below w.heap.size w (w.alloc (.cells #[.pointer none, .slice none 0 0] 48))) := Lib.hid ((Below.refl _ _).alloc (Nat.le_refl _) _)
  clear hp
  by_cases hn : n < 0
  · have hna : -n = ((n.natAbs : Nat) : Int) := by omega
    have HFX : Hid (∀ l, l = [45] ++ dd ++ 46 :: rr → l = Dg.fx n p) := Lib.hid (fun l h => hfx.out l (by rw [if_pos hn]; exact h))
    clear hfx
    generalize n.natAbs = a at *
    go_enter Tryz.func9, Tryz.ntmps9
    go_wp2_with (go_at_call 21; refine (within_any _ _ _ _).mono ?_; rintro e w' ⟨rfl, rfl⟩)
    refine (writeByte_any w.heap.size w.heap.size [] 45 _ HF.out (by simp) hB0.out.size).mono ?_
    rintro e w1 ⟨rfl, u1, b1⟩
    have U1 : Hid (Bld w.heap.size w.heap.size [45] w1) := Lib.hid (BldU.bld u1)
    have B1 : Hid (Below w.heap.size w w1) := Lib.hid (hB0.out.trans b1)
    clear u1 b1
    go_wp2_with fail
    refine (C _ (HP.out.below B1.out)).out.mono ?_
    rintro e w2 ⟨t, rfl, d2, z2, b2⟩
    have B2 := Lib.hid (tbt B1.out b2)
    have U2 := Lib.hid (Bld.belowAll U1.out b2)
    have D2 := Lib.hid d2
    have ht : t.size = dd.length + p := by
      have e : t.data.toList.length = t.size := by simp
      rw [← e, d2]; exact FP.out.2.2
    have hts : t.size ≤ 100 := by omega
    have hq : (t.size : Int) - (p : Int) = ((dd.length : Nat) : Int) := by omega
    have HT := Lib.hid ht
    have hq1 : dd.length ≤ t.size := by omega
    generalize hQ : dd.length = q at *
    have HQ := Lib.hid hQ
    have X1 := Lib.hid (ext_take t q)
    have X2 := Lib.hid (fun e he => ext_drop t q e he)
    have Y1 := ext_len t 0 q
    have Y2 := Lib.hid (fun e => ext_len t q e)
    clear b2 d2 z2 ht hQ U1
    go_wp2_with fail
    refine (writeString_any w.heap.size w.heap.size [45] _ _ U2.out (by simp) (by omega) B2.out.size).mono ?_
    rintro e w3 ⟨rfl, u3, b3⟩
    have U3 := Lib.hid (BldU.bld u3)
    have B3 := Lib.hid (B2.out.trans b3)
    clear u3 b3 U2
    go_wp2_with fail
    refine (writeByte_any w.heap.size w.heap.size _ 46 _ U3.out (by first | omega | (simp only [List.length_append, List.length_cons, List.length_nil]; omega)) B3.out.size).mono ?_
    rintro e w4 ⟨rfl, u4, b4⟩
    have U4 := Lib.hid (BldU.bld u4)
    have B4 := Lib.hid (B3.out.trans b4)
    clear u4 b4 U3
    go_wp2_with fail
    refine (writeString_any w.heap.size w.heap.size _ _ _ U4.out (by simp only [List.length_append, List.length_cons, List.length_nil]; omega) (by have := (Y2.out t.size).2; omega) B4.out.size).mono ?_
    rintro e w5 ⟨rfl, u5, b5⟩
    have U5 := Lib.hid (BldU.bld u5)
    have B5 := Lib.hid (B4.out.trans b5)
    clear u5 b5 U4
    go_wp2_with fail
    refine (bldString_any w.heap.size w.heap.size _ _ U5.out B5.out.size).mono ?_
    rintro e w6 ⟨rfl, b6⟩
    have B6 := Lib.hid (B5.out.trans b6)
    clear b6
    go_wp2_with fail
    go_ret
    refine Str.mk ?_ B6.out
    rw [mk_data]
    apply HFX.out
    have e1 : List.take (t.size - q) (List.drop q t.data.toList) = rr := by rw [List.take_of_length_le (by simp), D2.out, FP.out.2.1]
    have e2 : List.take q t.data.toList = dd := by rw [D2.out, FP.out.1]
    rw [e1, e2]
    rfl
  · have hna : n = ((n.natAbs : Nat) : Int) := by omega
    have HFX : Hid (∀ l, l = [] ++ dd ++ 46 :: rr → l = Dg.fx n p) := Lib.hid (fun l h => hfx.out l (by rw [if_neg hn]; exact h))
    clear hfx
    generalize hA : n.natAbs = a at *
    subst hna
    have U1 : Hid (Bld w.heap.size w.heap.size [] (w.alloc (.cells #[.pointer none, .slice none 0 0] 48))) := Lib.hid HF.out
    go_enter Tryz.func9, Tryz.ntmps9
    go_wp2_with (first | (go_at_call 21; refine (within_any _ _ _ _).mono ?_; rintro e w' ⟨rfl, rfl⟩))
    generalize hw1 : w.alloc (.cells #[.pointer none, .slice none 0 0] 48) = w1 at *
    have B1 := hB0
    clear hw1
    refine (C _ (HP.out.below B1.out)).out.mono ?_
    rintro e w2 ⟨t, rfl, d2, z2, b2⟩
    have B2 := Lib.hid (tbt B1.out b2)
    have U2 := Lib.hid (Bld.belowAll U1.out b2)
    have D2 := Lib.hid d2
    have ht : t.size = dd.length + p := by
      have e : t.data.toList.length = t.size := by simp
      rw [← e, d2]; exact FP.out.2.2
    have hts : t.size ≤ 100 := by omega
    have hq : (t.size : Int) - (p : Int) = ((dd.length : Nat) : Int) := by omega
    have HT := Lib.hid ht
    have hq1 : dd.length ≤ t.size := by omega
    generalize hQ : dd.length = q at *
    have HQ := Lib.hid hQ
    have X1 := Lib.hid (ext_take t q)
    have X2 := Lib.hid (fun e he => ext_drop t q e he)
    have Y1 := ext_len t 0 q
    have Y2 := Lib.hid (fun e => ext_len t q e)
    clear b2 d2 z2 ht hQ U1
    go_wp2_with fail
    refine (writeString_any w.heap.size w.heap.size [] _ _ U2.out (by simp) (by omega) B2.out.size).mono ?_
    rintro e w3 ⟨rfl, u3, b3⟩
    have U3 := Lib.hid (BldU.bld u3)
    have B3 := Lib.hid (B2.out.trans b3)
    clear u3 b3 U2
    go_wp2_with fail
    refine (writeByte_any w.heap.size w.heap.size _ 46 _ U3.out (by first | omega | (simp only [List.length_append, List.length_cons, List.length_nil]; omega)) B3.out.size).mono ?_
    rintro e w4 ⟨rfl, u4, b4⟩
    have U4 := Lib.hid (BldU.bld u4)
    have B4 := Lib.hid (B3.out.trans b4)
    clear u4 b4 U3
    go_wp2_with fail
    refine (writeString_any w.heap.size w.heap.size _ _ _ U4.out (by simp only [List.length_append, List.length_cons, List.length_nil]; omega) (by have := (Y2.out t.size).2; omega) B4.out.size).mono ?_
    rintro e w5 ⟨rfl, u5, b5⟩
    have U5 := Lib.hid (BldU.bld u5)
    have B5 := Lib.hid (B4.out.trans b5)
    clear u5 b5 U4
    go_wp2_with fail
    refine (bldString_any w.heap.size w.heap.size _ _ U5.out B5.out.size).mono ?_
    rintro e w6 ⟨rfl, b6⟩
    have B6 := Lib.hid (B5.out.trans b6)
    clear b6
    go_wp2_with fail
    go_ret
    refine Str.mk ?_ B6.out
    rw [mk_data]
    apply HFX.out
    have e1 : List.take (t.size - q) (List.drop q t.data.toList) = rr := by rw [List.take_of_length_le (by simp), D2.out, FP.out.2.1]
    have e2 : List.take q t.data.toList = dd := by rw [D2.out, FP.out.1]
    rw [e1, e2]
    rfl
set_option maxHeartbeats 1600000 in
theorem implFixedText_out (n p : Int) (w : World) (h : ¬ ((-1000000000 ≤ n ∧ n ≤ 1000000000) ∧ 1 ≤ p ∧ p ≤ 6)) :
    Calls Tryz.prog 9 #[.int .i64 n, .int .i64 p] w (Str [] w) := by
  rcases in_cases (-1000000000) n 1000000000 with ⟨a1, a2, i1⟩ | ⟨-, i1⟩
  · have i2 : Ar.inB 1 p 6 = false := Ar.inB_f (by omega)
    go_enter Tryz.func9, Tryz.ntmps9
    go_wp2_with (go_at_call 21; refine (within_any _ _ _ _).mono ?_; rintro e w' ⟨rfl, rfl⟩)
    go_ret
    exact Str.mk rfl (Below.refl _ _)
  · go_enter Tryz.func9, Tryz.ntmps9
    go_wp2_with (go_at_call 21; refine (within_any _ _ _ _).mono ?_; rintro e w' ⟨rfl, rfl⟩)
    go_ret
    exact Str.mk rfl (Below.refl _ _)
end Go.Proofs.YtommcckihanedaaGreatDoor

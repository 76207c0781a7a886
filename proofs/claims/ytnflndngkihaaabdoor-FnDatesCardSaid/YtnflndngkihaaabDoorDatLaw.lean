/-
  A date's text is read back; how long bytes may be; what the law of dates needs besides. No condition of its own.
-/
import Derived.Test.YtnflndngkihaaabDoorDraw
import Derived.Test.YtnflndngkihaaabDoorRdD
import Derived.Test.YtnflndngkihaaabDoorDateTx
namespace Go.Proofs.YtnflndngkihaaabDoor
open Go.RowKit
set_option linter.unusedVariables false

theorem bs_of_row {w : World} {a : Option Addr} {len cap : Nat} {zs : List Int}
    (h : (a = none ∧ len = 0 ∧ cap = 0 ∧ zs = []) ∨ ∃ x, a = some x ∧ len ≤ cap ∧ cap ≤ maxLen ∧ zs.length = cap ∧ (∀ i, i < zs.length → w.cell? (x.add i) = some (.int .u8 (zs.getD i 0))) ∧ ∀ n ∈ zs, (Lit.int .u8 n).wf = true) :
    Bs w.heap.size w (.slice a len cap) len := by
  rcases h with ⟨rfl, rfl, rfl, rfl⟩ | ⟨x, rfl, hl, hm, hz, hc, hw⟩
  · exact Or.inl ⟨rfl, _, _, rfl⟩
  · rcases Nat.eq_zero_or_pos len with h0 | h0
    · subst h0; exact Or.inl ⟨rfl, _, _, rfl⟩
    · obtain ⟨b, off, rfl, hc'⟩ := ints_at hc (by omega)
      have c0 := hc' 0 (by omega)
      refine Or.inr ⟨b, off, cap, rfl, World.block_lt_of_cell? w _ c0, fun j hj => ?_⟩
      have hr := range_u8 hw j
      refine ⟨zs[j]?.getD 0, hr.1, hr.2, ?_⟩
      rw [hc' j (by omega), List.getD_eq_getElem?_getD]
theorem b10Long_no (w : World) (a : Option Addr) (n cn : Nat) (h1 : n ≤ 1048576) :
    Calls Tryd.prog 18 #[.slice a n cn] w fun e w' => e = .returned (.bool false) ∧ w = w' := by
  have h3 : ¬ (1048576 : Int) < n := by omega
  go_enter Tryd.func18, Tryd.ntmps18
  go_wp2
  go_ret
  exact ⟨rfl, rfl⟩
theorem b10Long_yes (w : World) (a : Option Addr) (n cn : Nat) (h1 : 1048576 < n) :
    Calls Tryd.prog 18 #[.slice a n cn] w fun e w' => e = .returned (.bool true) ∧ w = w' := by
  have h3 : (1048576 : Int) < n := by omega
  go_enter Tryd.func18, Tryd.ntmps18
  go_wp2
  go_ret
  exact ⟨rfl, rfl⟩
theorem fl2_cut {c : UInt8} {q t : List UInt8} (hq : q.length = 2) : Fd.flds c [2, 2] (q ++ c :: t) = (match Fd.rd1 2 q, (match Fd.rd1 2 t with | some v => some [v] | none => none) with | some v, some vs => some (v :: vs) | _, _ => none) := by
  obtain ⟨e1, e2, e3⟩ := Fd.at_cut q c t
  rw [hq] at e1 e2 e3
  rw [fl2, if_pos ⟨by simp; omega, e1⟩, e2, e3]
  cases Fd.rd1 2 q <;> cases Fd.rd1 2 t <;> rfl
theorem fl3_cut {c : UInt8} {p q t : List UInt8} (hp : p.length = 4) (hq : q.length = 2) : Fd.flds c [4, 2, 2] (p ++ c :: (q ++ c :: t)) = (match Fd.rd1 4 p, (match Fd.rd1 2 q, (match Fd.rd1 2 t with | some v => some [v] | none => none) with | some v, some vs => some (v :: vs) | _, _ => none) with | some v, some vs => some (v :: vs) | _, _ => none) := by
  obtain ⟨e1, e2, e3⟩ := Fd.at_cut p c (q ++ c :: t)
  rw [hp] at e1 e2 e3
  rw [fl3, if_pos ⟨by simp; omega, e1⟩, e2, e3, fl2_cut hq]
  cases Fd.rd1 4 p <;> cases Fd.rd1 2 q <;> cases Fd.rd1 2 t <;> rfl
theorem dtx_pad {y m d : Int} (h : Dy.isD y m d) : dtx y m d = Dg.pad 4 y.toNat ++ 45 :: (Dg.pad 2 m.toNat ++ 45 :: Dg.pad 2 d.toNat) := by
  obtain ⟨⟨y1, y2⟩, ⟨m1, m2⟩, d1, d2⟩ := isD_bd h
  unfold dtx
  rw [← Dg.zpad_pad 2 m.toNat (by omega) (by omega), ← Dg.zpad_pad 2 d.toNat (by omega) (by omega), ← Dg.zpad_pad 4 y.toNat (by omega) (by omega), Dg.zpad_long 4 y.toNat (Dg.dec_len 3 y.toNat (by omega))]
/-- the text of a day is read back -/
theorem dat_back {y m d day : Int} {l : List UInt8} (h : Dy.isD y m d) (hn : Dy.num y m + d = day + 1) (hl : l = dtx y m d) : datV l = some day ∧ l.length = 10 := by
  have hp := dtx_pad h
  obtain ⟨⟨y1, y2⟩, ⟨m1, m2⟩, d1, d2⟩ := isD_bd h
  have hf : Fd.flds 45 [4, 2, 2] l = some [y.toNat, m.toNat, d.toNat] := by
    rw [hl, hp, fl3_cut (Dg.pad_length _ _) (Dg.pad_length _ _), Fd.rd1_pad 4 _ (by omega), Fd.rd1_pad 2 _ (by omega), Fd.rd1_pad 2 _ (by omega)]
  have ey : ((y.toNat : Nat) : Int) = y := by omega
  have em : ((m.toNat : Nat) : Int) = m := by omega
  have ed : ((d.toNat : Nat) : Int) = d := by omega
  refine ⟨?_, ?_⟩
  · rw [dat_some hf, ymd_y (by rw [ey, em, ed]; exact h), ey, em, ed]
    congr 1; omega
  · rw [hl, hp]; simp [Dg.pad_length]
theorem num_back {y m d day : Int} (hn : Dy.num y m + d = day + 1) : Dy.num y m + d - 1 = day := by omega
theorem wday_bd (x : Int) : 0 ≤ wday x ∧ wday x ≤ 6 := by unfold wday; omega
theorem wday_next (x : Int) : wday (x + 1) = (wday x + 1) % 7 := by unfold wday; omega
theorem bs_up {w W : World} {v : Value} {n : Nat} (h : Bs w.heap.size w v n) (hb : Below w.heap.size w W) : Bs W.heap.size W v n := by
  rcases h with h | ⟨b, off, cap, he, hlt, hc⟩
  · exact Or.inl h
  · exact Or.inr ⟨b, off, cap, he, Nat.lt_of_lt_of_le hlt hb.size, fun j hj => by
      obtain ⟨z, z0, z1, z2⟩ := hc j hj
      exact ⟨z, z0, z1, (hb.cell (p := ⟨b, off + j, none⟩) hlt).trans z2⟩⟩
theorem hr_back {d h : Int} (h0 : 0 ≤ h) (h1 : h ≤ 23) : ((24 * d + h) / 24 == d) = true ∧ ((24 * d + h) % 24 == h) = true := by
  constructor
  · rw [beq_iff_eq]; omega
  · rw [beq_iff_eq]; omega
end Go.Proofs.YtnflndngkihaaabDoor

/-
  What the law of units wants of the program's contracts: a clock's text and what reading it answers, a number with places and what reading it answers, a mass and its height. The conditions: the library's listed variables hold what their texts lay.
-/
import Derived.Test.YtommcckihanedaaGreatDoorUnL
namespace Go.Proofs.YtommcckihanedaaGreatDoor
open Go.RowKit
set_option linter.unusedVariables false
theorem un_bs_of_row {w : World} {a : Option Addr} {len cap : Nat} {zs : List Int}
    (h : (a = none ∧ len = 0 ∧ cap = 0 ∧ zs = []) ∨ ∃ x, a = some x ∧ len ≤ cap ∧ cap ≤ maxLen ∧ zs.length = cap ∧ (∀ i, i < zs.length → w.cell? (x.add i) = some (.int .u8 (zs.getD i 0))) ∧ ∀ n ∈ zs, (Lit.int .u8 n).wf = true) :
    Bs w.heap.size w (.slice a len cap) len := by
  rcases h with ⟨rfl, rfl, rfl, rfl⟩ | ⟨x, rfl, hl, hm, hz, hc, hw⟩
  · exact Or.inl ⟨rfl, _, _, rfl⟩
  · rcases Nat.eq_zero_or_pos len with h0 | h0
    · subst h0; exact Or.inl ⟨rfl, _, _, rfl⟩
    · obtain ⟨b, off, rfl, hc'⟩ := ints_at hc (by omega)
      have c0 := hc' 0 (by omega)
      refine Or.inr ⟨b, off, cap, rfl, World.block_lt_of_cell? w _ c0, fun j hj => ?_⟩
      have hr := range_u8 hw j
      refine ⟨zs[j]?.getD 0, hr.1, hr.2, ?_⟩
      rw [hc' j (by omega), List.getD_eq_getElem?_getD]
theorem un_bs_up {w W : World} {v : Value} {n : Nat} (h : Bs w.heap.size w v n) (hb : Below w.heap.size w W) : Bs W.heap.size W v n := by
  rcases h with h | ⟨b, off, cap, he, hlt, hc⟩
  · exact Or.inl h
  · exact Or.inr ⟨b, off, cap, he, Nat.lt_of_lt_of_le hlt hb.size, fun j hj => by
      obtain ⟨z, z0, z1, z2⟩ := hc j hj
      exact ⟨z, z0, z1, (hb.cell (p := ⟨b, off + j, none⟩) hlt).trans z2⟩⟩
theorem un_ne {t : ByteArray} {l : List UInt8} (h : t.data.toList = l) (hl : l ≠ []) : t.toList.isEmpty = false := by
  rw [ByteArray.toList_eq t, h]
  cases l with
  | nil => exact absurd rfl hl
  | cons x r => rfl
theorem un_em : (⟨#[]⟩ : ByteArray).toList.isEmpty = true := by rw [ByteArray.toList_eq]; rfl
theorem un_sz (t : ByteArray) : t.data.toList.length = t.size := by simp
theorem fx_le {n : Int} {p : Nat} (h1 : -1000000000 ≤ n) (h2 : n ≤ 1000000000) (h3 : p ≤ 6) : (Dg.fx n p).length ≤ 40 := by
  have h4 : n.natAbs / 10 ^ p ≤ n.natAbs := Nat.div_le_self _ _
  have := Dg.dec_len_le 13 (n.natAbs / 10 ^ p) (by omega) (by omega)
  unfold Dg.fx
  rw [List.length_append, List.length_append, List.length_cons, Dg.pad_length]
  split <;> simp <;> omega
/-- the program's clock's text where there is one -/
theorem unClk_in {m : Int} (h1 : 0 ≤ m) (h2 : m ≤ 1439) (w : World) (hp : Pow w) :
    Calls Tryz.prog 6 #[.int .i64 m] w fun e w' => ∃ t : ByteArray, e = .returned (.string t) ∧ t.toList.isEmpty = false ∧ t.size = 5 ∧ clkV t.data.toList = some m ∧ Below w.heap.size w w' := by
  obtain ⟨g1, g2⟩ := clk_back h1 h2
  refine (implClockText_any m w hp).mono ?_
  rintro e w' ⟨t, rfl, ht, -, hb⟩
  refine ⟨t, rfl, un_ne ht (by intro h; rw [h] at g2; cases g2), ?_, by rw [ht]; exact g1, hb⟩
  rw [← un_sz, ht]; exact g2
theorem unClk_out {m : Int} (h : ¬ (0 ≤ m ∧ m ≤ 1439)) (w : World) (hp : Pow w) :
    Calls Tryz.prog 6 #[.int .i64 m] w fun e w' => e = .returned (.string ⟨#[]⟩) ∧ Below w.heap.size w w' := by
  refine (implClockText_any m w hp).mono ?_
  rintro e w' ⟨t, rfl, ht, -, hb⟩
  rw [clk_out h] at ht
  obtain rfl : t = ⟨#[]⟩ := str_eq ht
  exact ⟨rfl, hb⟩
theorem unRdC {t : ByteArray} {o : Option Int} (hs : t.size ≤ 1048576) (ho : clkV t.data.toList = o) (w : World) (hm : MaxN w) :
    Calls Tryz.prog 7 #[.string t] w fun e w' => e = .returned (.tuple #[.int .i64 (o.getD 0), .bool o.isSome]) ∧ Below w.heap.size w w' := by
  have := implReadClock_any t w hs hm
  rwa [ho] at this
theorem unFx_in {n : Int} {q : Nat} (h1 : -1000000000 ≤ n) (h2 : n ≤ 1000000000) (h3 : 1 ≤ q) (h4 : q ≤ 6) (w : World) (hp : Pow w) :
    Calls Tryz.prog 9 #[.int .i64 n, .int .i64 q] w fun e w' => ∃ t : ByteArray, e = .returned (.string t) ∧ t.toList.isEmpty = false ∧ t.size ≤ 1048576 ∧ t.data.toList = Dg.fx n q ∧ Below w.heap.size w w' := by
  have hl := fx_le h1 h2 h4
  refine (implFixedText_in n q w hp h1 h2 h3 h4).mono ?_
  rintro e w' ⟨t, rfl, ht, -, hb⟩
  exact ⟨t, rfl, un_ne ht (fx_ne _ _), by rw [← un_sz, ht]; omega, ht, hb⟩
theorem unFx_out {n p : Int} (h : ¬ ((-1000000000 ≤ n ∧ n ≤ 1000000000) ∧ 1 ≤ p ∧ p ≤ 6)) (w : World) :
    Calls Tryz.prog 9 #[.int .i64 n, .int .i64 p] w fun e w' => e = .returned (.string ⟨#[]⟩) ∧ Below w.heap.size w w' := by
  refine (implFixedText_out n p w h).mono ?_
  rintro e w' ⟨t, rfl, ht, -, hb⟩
  obtain rfl : t = ⟨#[]⟩ := str_eq ht
  exact ⟨rfl, hb⟩
theorem unRdF {n : Int} {q : Nat} {t : ByteArray} (h1 : -1000000000 ≤ n) (h2 : n ≤ 1000000000) (h3 : 1 ≤ q) (h4 : q ≤ 6) (hs : t.size ≤ 1048576) (ht : t.data.toList = Dg.fx n q) (w : World) (hp : Pow w) (hE : Errs w) (hm : MaxN w) :
    Calls Tryz.prog 10 #[.string t, .int .i64 q] w fun e w' => e = .returned (.tuple #[.int .i64 n, .bool true]) ∧ Below w.heap.size w w' := by
  refine (implReadFixed_any t q w hs hp hE hm).mono ?_
  rintro e w' ⟨o, ho, rfl, hb⟩
  rw [ht] at ho
  obtain rfl : o = some n := fx_some ⟨⟨h1, h2⟩, by omega, by omega⟩ (by simp) ho
  exact ⟨rfl, hb⟩
theorem unRdF_no (p : Int) (w : World) (hp : Pow w) (hE : Errs w) (hm : MaxN w) :
    Calls Tryz.prog 10 #[.string ⟨#[]⟩, .int .i64 p] w fun e w' => e = .returned (.tuple #[.int .i64 0, .bool false]) ∧ Below w.heap.size w w' := by
  refine (implReadFixed_any ⟨#[]⟩ p w (by decide) hp hE hm).mono ?_
  rintro e w' ⟨o, ho, rfl, hb⟩
  obtain rfl : o = none := fx_none ho
  exact ⟨rfl, hb⟩
end Go.Proofs.YtommcckihanedaaGreatDoor

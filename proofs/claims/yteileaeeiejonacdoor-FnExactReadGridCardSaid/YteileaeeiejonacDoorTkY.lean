/-
  One test read back out of its text, by the program. The conditions: impl.testRules and the library's variables hold what their texts lay.
-/
import Derived.Test.YteileaeeiejonacDoorTkT
import Derived.Test.YteileaeeiejonacDoorSetT
import Derived.Deep.RegionHeld3
namespace Go.Proofs.YteileaeeiejonacDoor
open Go.RowKit Go.ChangeShapes Go.WideShapes Go.Deep
set_option linter.unusedVariables false
set_option maxRecDepth 100000

/-- what reading a test leaves -/
def RRt (w : World) (o : Option Tst) (e : Ending) (w' : World) : Prop :=
  e = .returned (.tuple #[.agg #[.int .i64 (o.getD Tq.tz).ki, .int .i64 (o.getD Tq.tz).sc, .int .i64 (o.getD Tq.tz).qu, .int .i64 (o.getD Tq.tz).de, .int .i64 (o.getD Tq.tz).ho], .bool o.isSome]) ∧ Below w.heap.size w w'
theorem RRt.no {w w' : World} {o : Option Tst} (ho : o = none) (hb : Below w.heap.size w w') : RRt w o (.returned (.tuple #[.agg #[.int .i64 0, .int .i64 0, .int .i64 0, .int .i64 0, .int .i64 0], .bool false])) w' := by
  subst ho; exact ⟨rfl, hb⟩
theorem RRt.yes {w w' : World} {o : Option Tst} {k a b c d : Int} (ho : o = some ⟨k, a, b, c, d⟩) (hb : Below w.heap.size w w') : RRt w o (.returned (.tuple #[.agg #[.int .i64 k, .int .i64 a, .int .i64 b, .int .i64 c, .int .i64 d], .bool true])) w' := by
  subst ho; exact ⟨rfl, hb⟩
/-! ### a text cut at a sign -/
theorem cut_miss {c : UInt8} {l : List UInt8} (h : c ∉ l) : Lib.cut l [c] = (l, [], false) := by
  rcases idx_cases c l with ⟨_, hi⟩ | ⟨p, r, rfl, _, _⟩
  · unfold Lib.cut; rw [hi, if_neg (by omega)]
  · simp at h
theorem cut_hit {c : UInt8} {p r : List UInt8} (h : c ∉ p) : Lib.cut (p ++ c :: r) [c] = (p, r, true) := by
  rcases idx_cases c (p ++ c :: r) with ⟨hn, _⟩ | ⟨q, t, he, hq, hi⟩
  · simp at hn
  · have hpq : p = q ∧ r = t := by
      have h1 := spl_hit c r p h
      have h2 := spl_hit c t q hq
      rw [he, h2] at h1
      have h3 := (List.cons.inj h1).1
      subst h3
      have h4 := List.append_cancel_left he
      exact ⟨rfl, (List.cons.inj h4).2⟩
    obtain ⟨rfl, rfl⟩ := hpq
    unfold Lib.cut
    rw [hi, if_pos (by omega)]
    simp
theorem Tq.rt_cut (l : List UInt8) : Tq.rt l = (rl (Lib.cut l [32]).2.1).bind (Tq.t4 (Tq.kindOf (Lib.cut l [32]).1)) := by
  rcases spl_two 32 l with ⟨h, hs⟩ | ⟨p, r, rfl, hp, hr, hs⟩ | ⟨p, r, rfl, hp, hr, hs⟩
  · rw [Tq.rt_one hs, cut_miss h]; simp only []; rw [rl_nil]; rfl
  · rw [Tq.rt_two hs, cut_hit hp]
  · rw [Tq.rt_many hs, cut_hit hp]; simp only []; rw [rl_odd hr (by decide) (by decide) (by decide)]; rfl
theorem cut_len (c : UInt8) (l : List UInt8) : (Lib.cut l [c]).1.length ≤ l.length ∧ (Lib.cut l [c]).2.1.length ≤ l.length := by
  rcases idx_cases c l with ⟨h, _⟩ | ⟨p, r, rfl, hp, _⟩
  · rw [cut_miss h]; simp
  · rw [cut_hit hp]; simp; omega
theorem cut_any (s : ByteArray) (c : UInt8) (w : World) (hs : s.size ≤ 1048576) (hm : MaxL w) :
    Calls Tryd.prog 55 #[.string s, .string ⟨#[c]⟩] w fun e w' => e = .returned (.tuple #[.string ⟨(Lib.cut s.data.toList [c]).1.toArray⟩, .string ⟨(Lib.cut s.data.toList [c]).2.1.toArray⟩, .bool (Lib.cut s.data.toList [c]).2.2]) ∧ Below w.heap.size w w' := by
  obtain ⟨m, hm⟩ := hm
  refine (Any.strings_Cut { Tryd.laysM145 with } s ⟨#[c]⟩ m w (by omega) hm).mono ?_
  rintro e w' ⟨rfl, n, rfl⟩
  exact ⟨rfl, below_drewW _ _⟩
namespace Tq
def kN (p : List UInt8) (k : Nat) : Prop := ∀ j : Nat, 1 ≤ j → j < k → p ≠ (nmB j).data.toList
theorem kN_yes {p : List UInt8} {k : Nat} (h1 : 1 ≤ k) (h3 : k ≤ 3) (hn : kN p k) (h : p = (nmB (k : Int)).data.toList) : kindOf p = k := by
  have hc : k = 1 ∨ k = 2 ∨ k = 3 := by omega
  unfold kindOf
  rcases hc with rfl | rfl | rfl
  · have e1 : p = (nmB 1).data.toList := h
    rw [if_pos e1]; rfl
  · have e1 : p ≠ (nmB 1).data.toList := hn 1 (by omega) (by omega)
    have e2 : p = (nmB 2).data.toList := h
    rw [if_neg e1, if_pos e2]; rfl
  · have e1 : p ≠ (nmB 1).data.toList := hn 1 (by omega) (by omega)
    have e2 : p ≠ (nmB 2).data.toList := hn 2 (by omega) (by omega)
    have e3 : p = (nmB 3).data.toList := h
    rw [if_neg e1, if_neg e2, if_pos e3]; rfl
theorem kN_no {p : List UInt8} (hn : kN p 4) : kindOf p = 0 := by
  have e1 : p ≠ (nmB 1).data.toList := hn 1 (by omega) (by omega)
  have e2 : p ≠ (nmB 2).data.toList := hn 2 (by omega) (by omega)
  have e3 : p ≠ (nmB 3).data.toList := hn 3 (by omega) (by omega)
  unfold kindOf
  rw [if_neg e1, if_neg e2, if_neg e3]
theorem kN_next {p : List UInt8} {k : Nat} (hn : kN p k) (h : p ≠ (nmB k).data.toList) : kN p (k + 1) := fun j h1 h2 => by
  by_cases e : j = k
  · subst e; exact h
  · exact hn j h1 (by omega)
end Tq
theorem ba_eq {a : ByteArray} {p : List UInt8} : (a = ⟨p.toArray⟩) ↔ p = a.data.toList := by
  constructor
  · intro h; rw [h]
  · intro h; rw [h]
set_option maxHeartbeats 3200000 in
theorem kindNamed_any (p : List UInt8) (w : World) (hR : RulesT w) :
    Calls Tryd.prog 64 #[.string ⟨p.toArray⟩] w fun e w' => e = .returned (.int .i64 (Tq.kindOf p)) ∧ Below w.heap.size w w' := by
  have HR := Lib.hid hR
  clear hR
  go_enter Tryd.func64, Tryd.ntmps64
  go_wp2
  go_loopw [3] (fun i wr => ∃ k : Nat, 1 ≤ k ∧ k ≤ 4 ∧ i = .int .i64 k ∧ Hid (Tq.kN p k) ∧ Hid (Below w.heap.size w wr)) (fun i _ => 4 - (intOf i).toNat)
  case atStart => exact ⟨1, by omega, by omega, rfl, Lib.hid (fun j h1 h2 => by omega), Lib.hid (Below.refl _ _)⟩
  case round =>
    obtain ⟨k, hk1, hk, rfl, hn, hb⟩ := hrel
    by_cases hlt : k ≤ 3
    · have hltz : (k : Int) ≤ 3 := by omega
      have C := Lib.hid (implTestName_any (k : Int) wr (HR.out.below hb.out))
      by_cases he : p = (Tq.nmB (k : Int)).data.toList
      · have hq := Lib.hid (Tq.kN_yes hk1 hlt hn.out he)
        have ht2 : ((Tq.nmB (k : Int)).toList == p) = true := by rw [ByteArray.toList_eq, he]; exact beq_self_eq_true _
        clear he
        generalize Tq.nmB (k : Int) = nm at *
        go_wp2_with fail
        refine C.out.mono ?_
        rintro e w2 ⟨rfl, b2⟩
        have B2 := Lib.hid (bt hb.out b2)
        clear b2
        go_wp2_with fail
        go_ret
        exact ⟨ret_int hq.out.symm, B2.out⟩
      · have hq := Lib.hid (Tq.kN_next hn.out he)
        have ht2 : ((Tq.nmB (k : Int)).toList == p) = false := by rw [ByteArray.toList_eq, beq_eq_false_iff_ne]; exact fun h => he h.symm
        clear he
        generalize Tq.nmB (k : Int) = nm at *
        go_wp2_with fail
        refine C.out.mono ?_
        rintro e w2 ⟨rfl, b2⟩
        have B2 := Lib.hid (bt hb.out b2)
        clear b2
        go_wp2_with fail
        exact ⟨⟨k + 1, by omega, by omega, by go_num, hq, B2⟩, by simp only [intOf]; omega⟩
    · have hltz : ¬ (k : Int) ≤ 3 := by omega
      have hk4 : k = 4 := by omega
      have hq : Hid (Tq.kindOf p = 0) := Lib.hid (Tq.kN_no (by rw [← hk4]; exact hn.out))
      clear hk4
      go_wp2
      go_ret
      exact ⟨ret_int hq.out.symm, hb.out⟩
end Go.Proofs.YteileaeeiejonacDoor

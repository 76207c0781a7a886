/-
  sort.Search at a closure: the first place from which on it says yes. No condition of its own.
-/
import Derived.Test.YtmieckchppfogaaGreatDoorSrch
import Derived.Laws.EntriesVeiled
namespace Go.Proofs.YtmieckchppfogaaGreatDoor
open Go.RowKit Go.Shelf
set_option linter.unusedVariables false
set_option maxRecDepth 100000

set_option maxHeartbeats 1600000 in
/-- sort.Search at a closure (its captured variables lb): of the world no more than that all lies as it lay -/
theorem searchV_any (g : Nat) (lb : Array Value) (eg : ∀ args w, (callFunc g args).run Tryz.prog w = .ok (.enter g args) w) (n : Nat) (p : Nat → Bool) (w : World) (hn : n ≤ 1000000000)
    (hf : ∀ (W : World) (i : Nat), Below w.heap.size w W → i < n → Calls Tryz.prog g (#[.int .i64 (i : Int)] ++ lb) W fun e w' => e = .returned (.bool (p i)) ∧ Below W.heap.size W w')
    (hm : ∀ a b, a ≤ b → b < n → p a = true → p b = true) :
    Calls Tryz.prog 48 #[.int .i64 (n : Int), .func (.func g) #[] lb] w (SrchB n p w) := by
  have HF := Lib.hid hf
  have HM := Lib.hid hm
  clear hf hm
  go_enter Tryz.func48, Tryz.ntmps48
  go_wp2
  go_loopw [5, 6] (fun x y wr => ∃ (i j : Nat), i ≤ j ∧ j ≤ n ∧ x = .int .i64 i ∧ y = .int .i64 j ∧ Hid (∀ a, a < i → p a = false) ∧ Hid (∀ a, j ≤ a → a < n → p a = true) ∧ Hid (Below w.heap.size w wr)) (fun x y _ => (intOf y - intOf x).toNat)
  case atStart => exact ⟨0, n, Nat.zero_le _, Nat.le_refl _, rfl, rfl, Lib.hid (fun a h => absurd h (Nat.not_lt_zero _)), Lib.hid (fun a h1 h2 => by omega), Lib.hid (Below.refl _ _)⟩
  case round =>
    obtain ⟨i, j, hij, hj, rfl, rfl, hlo, hhi, hbw⟩ := hrel
    by_cases hlt : i < j
    · have hmid : i ≤ (i + j) / 2 ∧ (i + j) / 2 < j := by omega
      have C := Lib.hid (HF.out wr ((i + j) / 2) hbw.out (by omega))
      have E : Hid (((i : Int) + (j : Int)) / 2 = (((i + j) / 2 : Nat) : Int)) := Lib.hid (by omega)
      have HI := fun m (hm : p m = true) (hmn : m < n) => Lib.hid (fun a (h1 : m ≤ a) (h2 : a < n) => HM.out m a h1 h2 hm)
      have HL := fun m (hm : p m = false) (hmn : m < n) => Lib.hid (fun a (h1 : a < m + 1) => (by
        rcases Bool.eq_false_or_eq_true (p a) with h | h
        · have := HM.out a m (by omega) hmn h; rw [hm] at this; cases this
        · exact h : p a = false))
      go_wp2_with fail
      rw [E.out]
      clear E
      generalize (i + j) / 2 = m at *
      obtain ⟨m1, m2⟩ := hmid
      cases hq : p m with
      | true =>
        have H1 := HI m hq (by omega)
        rw [hq] at C
        clear hq HI HL
        refine C.out.mono ?_
        rintro e w2 ⟨rfl, b2⟩
        have B2 := Lib.hid (bt hbw.out b2)
        clear b2 hbw
        go_wp2_with fail
        exact ⟨⟨i, m, by omega, by omega, rfl, rfl, hlo, H1, B2⟩, by simp only [intOf]; omega⟩
      | false =>
        have H1 := HL m hq (by omega)
        rw [hq] at C
        clear hq HI HL
        refine C.out.mono ?_
        rintro e w2 ⟨rfl, b2⟩
        have B2 := Lib.hid (bt hbw.out b2)
        clear b2 hbw
        go_wp2_with fail
        exact ⟨⟨m + 1, j, by omega, by omega, by go_num, rfl, H1, hhi, B2⟩, by simp only [intOf]; omega⟩
    · have he : i = j := by omega
      subst he
      go_wp2
      go_ret
      exact ⟨i, hj, rfl, hlo.out, hhi.out, hbw.out⟩
end Go.Proofs.YtmieckchppfogaaGreatDoor

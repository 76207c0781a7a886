/-
  sort.Search at a function value that only reads: the first place from which on it says yes. No condition of its own.
-/
import Derived.Test.YtmieckchppfogaaGreatDoorGen
import Derived.Shelf.Abstract
import Derived.WalkLawsBesides
namespace Go.Proofs.YtmieckchppfogaaGreatDoor
open Go.RowKit Go.Shelf
set_option linter.unusedVariables false
set_option maxRecDepth 100000

/-- how a search ends -/
def Srch (n : Nat) (p : Nat → Bool) (w : World) (e : Ending) (w' : World) : Prop :=
  ∃ k, k ≤ n ∧ e = .returned (.int .i64 (k : Int)) ∧ (∀ a, a < k → p a = false) ∧ (∀ a, k ≤ a → a < n → p a = true) ∧ ∃ q, w' = w.drewN q
/-- the same, of the world no more than that all lies as it lay -/
def SrchB (n : Nat) (p : Nat → Bool) (w : World) (e : Ending) (w' : World) : Prop :=
  ∃ k, k ≤ n ∧ e = .returned (.int .i64 (k : Int)) ∧ (∀ a, a < k → p a = false) ∧ (∀ a, k ≤ a → a < n → p a = true) ∧ Below w.heap.size w w'
theorem Srch.below {n : Nat} {p : Nat → Bool} {w : World} {e : Ending} {w' : World} (h : Srch n p w e w') : SrchB n p w e w' := by
  obtain ⟨k, h1, h2, h3, h4, q, rfl⟩ := h
  exact ⟨k, h1, h2, h3, h4, below_drewW _ _⟩
set_option maxHeartbeats 1600000 in
theorem search_any (g : Nat) (cb : Array Value) (eg : ∀ args w, (callFunc g args).run Tryz.prog w = .ok (.enter g args) w) (n : Nat) (p : Nat → Bool) (w : World) (hn : n ≤ 1048576)
    (hf : ∀ (q i : Nat), i < n → Calls Tryz.prog g (#[.int .i64 (i : Int)] ++ cb) (w.drewN q) fun e w' => e = .returned (.bool (p i)) ∧ ∃ q', w' = w.drewN q')
    (hm : ∀ a b, a ≤ b → b < n → p a = true → p b = true) :
    Calls Tryz.prog 48 #[.int .i64 (n : Int), .func (.func g) #[] cb] w (Srch n p w) := by
  have HF := Lib.hid hf
  have HM := Lib.hid hm
  clear hf hm
  go_enter Tryz.func48, Tryz.ntmps48
  go_wp2
  go_loopw [5, 6] (fun x y wr => ∃ (i j : Nat), i ≤ j ∧ j ≤ n ∧ x = .int .i64 i ∧ y = .int .i64 j ∧ Hid (∀ a, a < i → p a = false) ∧ Hid (∀ a, j ≤ a → a < n → p a = true) ∧ (∃ q, wr = w.drewN q)) (fun x y _ => (intOf y - intOf x).toNat)
  case atStart => exact ⟨0, n, Nat.zero_le _, Nat.le_refl _, rfl, rfl, Lib.hid (fun a h => absurd h (Nat.not_lt_zero _)), Lib.hid (fun a h1 h2 => by omega), 0, rfl⟩
  case round =>
    obtain ⟨i, j, hij, hj, rfl, rfl, hlo, hhi, q, rfl⟩ := hrel
    by_cases hlt : i < j
    · have hmid : i ≤ (i + j) / 2 ∧ (i + j) / 2 < j := by omega
      have C := Lib.hid (HF.out q ((i + j) / 2) (by omega))
      have E : Hid (((i : Int) + (j : Int)) / 2 = (((i + j) / 2 : Nat) : Int)) := Lib.hid (by omega)
      have HI := fun m (hm : p m = true) (hmn : m < n) => Lib.hid (fun a (h1 : m ≤ a) (h2 : a < n) => HM.out m a h1 h2 hm)
      have HL := fun m (hm : p m = false) (hmn : m < n) => Lib.hid (fun a (h1 : a < m + 1) => (by
        rcases Bool.eq_false_or_eq_true (p a) with h | h
        · have := HM.out a m (by omega) hmn h; rw [hm] at this; cases this
        · exact h : p a = false))
      go_wp2_with fail
      rw [E.out]
      clear E
      generalize (i + j) / 2 = m at *
      obtain ⟨m1, m2⟩ := hmid
      cases hq : p m with
      | true =>
        have H1 := HI m hq (by omega)
        rw [hq] at C
        clear hq HI HL
        refine C.out.mono ?_
        rintro e w2 ⟨rfl, q', rfl⟩
        go_wp2_with fail
        exact ⟨⟨i, m, by omega, by omega, rfl, rfl, hlo, H1, q', rfl⟩, by simp only [intOf]; omega⟩
      | false =>
        have H1 := HL m hq (by omega)
        rw [hq] at C
        clear hq HI HL
        refine C.out.mono ?_
        rintro e w2 ⟨rfl, q', rfl⟩
        go_wp2_with fail
        exact ⟨⟨m + 1, j, by omega, by omega, by go_num, rfl, H1, hhi, q', rfl⟩, by simp only [intOf]; omega⟩
    · have he : i = j := by omega
      subst he
      go_wp2
      go_ret
      exact ⟨i, hj, rfl, hlo.out, hhi.out, q, rfl⟩
end Go.Proofs.YtmieckchppfogaaGreatDoor

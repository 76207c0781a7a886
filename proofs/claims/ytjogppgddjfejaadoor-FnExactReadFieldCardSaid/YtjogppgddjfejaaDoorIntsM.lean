/-
  Rows of numbers are marked, and looked at: the forms that the laws' walks take. No condition of its own.
-/
import Derived.Test.YtjogppgddjfejaaDoorGen
import Derived.Laws.MakeOwn
namespace Go.Proofs.YtjogppgddjfejaaDoor
open Go.RowKit
set_option linter.unusedVariables false
set_option maxRecDepth 100000

theorem Own.belowAll {B : Nat} {w w1 : World} {v : Value} {zs : List Int} (h : Own B w v zs) (hb : Below w.heap.size w w1) : Own B w1 v zs := own_belowAll h hb
theorem Own.far {B x : Nat} {w w1 : World} {v : Value} {zs : List Int} (h : Own B w v zs) (hg : w.grownBy w1 (some x)) (hx : x < B) : Own B w1 v zs := own_far h hg hx
theorem markInt64S_res (B : Nat) (w : World) (v : Value) (n : Nat) (l : List Int) (k0 : Int) (h0 : 1 ≤ k0) (h1 : k0 ≤ 1000000000) (ho : w.ownsRow B 2 1 v n (iv l)) (hl : n ≤ 1048576) (hB : B ≤ w.heap.size) :
    Calls Tryd.prog 15 #[v, .int .i64 k0] w fun e w' => e = .returned (.int .i64 (k0 + n)) ∧ w'.ownsRow B 2 1 v n (iv (upTo k0 n)) ∧ Below B w w' := by
  have hn : n = l.length := by have := ho.1; rw [iv_length] at this; omega
  subst hn
  refine (markInt64S_any B w v l k0 h0 h1 ho hl).mono fun _ _ ⟨he, ho', hb⟩ => ⟨he, ?_, hb⟩
  unfold Own at ho'; rwa [upTo_length] at ho'
theorem heldInt64S_own (B : Nat) (w : World) (v : Value) (n : Nat) (k0 : Int) (h0 : 1 ≤ k0) (h1 : k0 ≤ 1000000000) (hl : n ≤ 1048576) (ho : w.ownsRow B 2 1 v n (iv (upTo k0 n))) :
    Calls Tryd.prog 16 #[v, .int .i64 k0] w fun e w' => e = .returned (.int .i64 (k0 + n)) ∧ Below w.heap.size w w' :=
  heldInt64S_any w v n k0 h0 h1 (Own.sl (B := B) (by unfold Own; rw [upTo_length]; exact ho)) hl
set_option maxHeartbeats 1600000 in
theorem markInt64S_own (B : Nat) (w : World) (g n cap : Nat) (zs : List Value) (k0 : Int) (h0 : 1 ≤ k0) (h1 : k0 ≤ 1000000000) (ho : w.ownsRow B 2 1 (.slice (some ⟨g, 0, none⟩) n cap) n zs) (hl : n ≤ 1048576) :
    Calls Tryd.prog 15 #[.slice (some ⟨g, 0, none⟩) n cap, .int .i64 k0] w fun e w' => e = .returned (.int .i64 (k0 + (n : Int))) ∧ w'.ownsRow B 2 1 (.slice (some ⟨g, 0, none⟩) n cap) n (iv (upTo k0 n)) ∧ w.grownBy w' (some g) := by
  have HO : Hid (∃ xs : List Value, w.ownsRow B 2 1 (.slice (some ⟨g, 0, none⟩) n cap) n xs ∧ xs.take 0 = iv (upTo k0 0)) := Lib.hid ⟨_, ho, rfl⟩
  clear ho
  go_enter Tryd.func15, Tryd.ntmps15
  go_wp2
  go_loopw [1, 5] (fun x i wr => ∃ k : Nat, k ≤ n ∧ i = .int .i64 k ∧ x = .int .i64 (k0 + k) ∧ Hid (w.grownBy wr (some g)) ∧ Hid (∃ xs : List Value, wr.ownsRow B 2 1 (.slice (some ⟨g, 0, none⟩) n cap) n xs ∧ xs.take k = iv (upTo k0 k))) (fun _ i _ => n - (intOf i).toNat)
  case atStart => exact ⟨0, Nat.zero_le _, rfl, by simp, Lib.hid (World.grownBy.refl _ _), HO⟩
  case round =>
    obtain ⟨k, hk, rfl, rfl, hb, hx⟩ := hrel
    by_cases hlt : k < n
    · obtain ⟨xs, hown, htk⟩ := hx.out
      have hxl : k < xs.length := by have := hown.1; omega
      have c2 : wr.cell? ⟨g, k, none⟩ = some xs[k] := (hown.cellAt k (by omega)).trans (List.getElem?_eq_getElem hxl)
      have f2 := hown.frozenAt k
      have HN : Hid (∃ ys : List Value, (wr.setCell ⟨g, k, none⟩ (.int .i64 (k0 + k))).ownsRow B 2 1 (.slice (some ⟨g, 0, none⟩) n cap) n ys ∧ ys.take (k + 1) = iv (upTo k0 (k + 1))) :=
        Lib.hid ⟨_, (hown.stored k (.int .i64 (k0 + k))).1, by rw [set_take hxl htk, upTo_snoc]; unfold iv; rw [List.map_append]; rfl⟩
      have hnb : Hid (w.grownBy (wr.setCell ⟨g, k, none⟩ (.int .i64 (k0 + k))) (some g)) := Lib.hid (only_setCell (p := ⟨g, k, none⟩) hb.out rfl _)
      clear hx hown htk hb
      generalize xs[k] = old at *
      go_wp2
      exact ⟨⟨k + 1, by omega, by go_num, by go_num, hnb, HN⟩, by simp only [intOf]; omega⟩
    · have hkz : k = n := by omega
      subst hkz
      go_wp2
      go_ret
      obtain ⟨xs, hown, htk⟩ := hx.out
      have hxl := hown.1
      rw [List.take_of_length_le (by omega)] at htk
      rw [htk] at hown
      exact ⟨rfl, hown, hb.out⟩
end Go.Proofs.YtjogppgddjfejaaDoor

/-
  A row of Layer of the call's own is marked, and looked at: every number gets the next mark. No condition of its own.
-/
import Derived.Test.YtbdhdlgenfpjgaaDoorLays
namespace Go.Proofs.YtbdhdlgenfpjgaaDoor
open Go.RowKit
set_option linter.unusedVariables false
set_option maxRecDepth 100000


set_option maxHeartbeats 3200000 in
/-- marks that lie where they should: the look finds each of them -/
theorem heldLayerS_own (B : Nat) (w : World) (v : Value) (n : Nat) (k0 : Int) (h0 : 1 ≤ k0) (h1 : k0 ≤ 1000000000) (hl : n ≤ 1048576) (ho : w.ownsRow B 42 7 v n (iv (upTo k0 (7 * n)))) :
    Calls Tryd.prog 13 #[v, .int .i64 k0] w fun e w' => e = .returned (.int .i64 (k0 + 7 * (n : Int))) ∧ Below w.heap.size w w' := by
  rcases Go.Joins.ownsRow_forms ho with ⟨rfl, hn⟩ | ⟨b, cap, rfl⟩
  · have HO := Lib.hid hn
    rw [hn]
    clear ho hn
    go_enter Tryd.func13, Tryd.ntmps13
    go_wp2
    refine wp_loop_rounds 1 ?_
    rw [rounds_succ]
    go_wp2
    go_ret
    exact ⟨ret_int (by simp), Below.refl _ _⟩
  · have HC : Hid (∀ j, j < 7 * n → w.cell? ⟨b, j, none⟩ = some (.int .i64 (k0 + (j : Int)))) := Lib.hid (fun j hj => by
      rw [ho.cellAt j (by omega)]
      exact iv_at (upTo_at hj))
    clear ho
    go_enter Tryd.func13, Tryd.ntmps13
    go_wp2
    go_loopw [1, 5] (fun x i wr => ∃ (k : Nat) (z : Int), k ≤ n ∧ i = .int .i64 k ∧ x = .int .i64 z ∧ Hid (z = k0 + 7 * k) ∧ 1 ≤ z ∧ z ≤ 1000000000 + 7 * k ∧ ∃ q, wr = w.drewN q) (fun _ i _ => n - (intOf i).toNat)
    case atStart => exact ⟨0, k0, Nat.zero_le _, rfl, rfl, Lib.hid (by simp), h0, by omega, 0, rfl⟩
    case round =>
      obtain ⟨k, z, hk, rfl, rfl, hz, z1, z2, q, rfl⟩ := hrel
      by_cases hlt : k < n
      · have cc : ∀ j, j < 7 → w.cell? ⟨b, k * 7 + j, none⟩ = some (.int .i64 (z + (j : Int))) := fun j hj => by
          have := HC.out (7 * k + j) (by omega)
          rw [show 7 * k + j = k * 7 + j by omega] at this
          rw [this, hz.out]
          congr 2; push_cast; omega
        have c0 : w.cell? ⟨b, k * 7, none⟩ = some (.int .i64 z) := by simpa using cc 0 (by omega)
        have c1 : w.cell? ⟨b, k * 7 + 1, none⟩ = some (.int .i64 (z + 1)) := cc 1 (by omega)
        have c2 : w.cell? ⟨b, k * 7 + 2, none⟩ = some (.int .i64 (z + 1 + 1)) := by rw [show z + 1 + 1 = z + 2 by omega]; exact cc 2 (by omega)
        have c3 : w.cell? ⟨b, k * 7 + 3, none⟩ = some (.int .i64 (z + 1 + 1 + 1)) := by rw [show z + 1 + 1 + 1 = z + 3 by omega]; exact cc 3 (by omega)
        have c4 : w.cell? ⟨b, k * 7 + 4, none⟩ = some (.int .i64 (z + 1 + 1 + 1 + 1)) := by rw [show z + 1 + 1 + 1 + 1 = z + 4 by omega]; exact cc 4 (by omega)
        have c5 : w.cell? ⟨b, k * 7 + 5, none⟩ = some (.int .i64 (z + 1 + 1 + 1 + 1 + 1)) := by rw [show z + 1 + 1 + 1 + 1 + 1 = z + 5 by omega]; exact cc 5 (by omega)
        have c6 : w.cell? ⟨b, k * 7 + 6, none⟩ = some (.int .i64 (z + 1 + 1 + 1 + 1 + 1 + 1)) := by rw [show z + 1 + 1 + 1 + 1 + 1 + 1 = z + 6 by omega]; exact cc 6 (by omega)
        clear cc
        go_wp2
        exact ⟨⟨k + 1, z + 1 + 1 + 1 + 1 + 1 + 1 + 1, by omega, by go_num, rfl, Lib.hid (by rw [hz.out]; push_cast; omega), by omega, by omega, _, rfl⟩, by simp only [intOf]; omega⟩
      · have hkn : k = n := by omega
        subst hkn
        go_wp2
        go_ret
        exact ⟨ret_int hz.out, below_drewN (Below.refl _ _) _⟩

set_option maxHeartbeats 3200000 in
/-- marking a row of the call's own, 7 numbers an element: only its block changes -/
theorem markLayerS_own (B : Nat) (w : World) (g n cap : Nat) (zs : List Value) (k0 : Int) (h0 : 1 ≤ k0) (h1 : k0 ≤ 1000000000) (ho : w.ownsRow B 42 7 (.slice (some ⟨g, 0, none⟩) n cap) n zs) (hl : n ≤ 1048576) :
    Calls Tryd.prog 11 #[.slice (some ⟨g, 0, none⟩) n cap, .int .i64 k0] w fun e w' => e = .returned (.int .i64 (k0 + 7 * (n : Int))) ∧ w'.ownsRow B 42 7 (.slice (some ⟨g, 0, none⟩) n cap) n (iv (upTo k0 (7 * n))) ∧ w.grownBy w' (some g) := by
  have HO : Hid (∃ xs : List Value, w.ownsRow B 42 7 (.slice (some ⟨g, 0, none⟩) n cap) n xs ∧ xs.take (7 * 0) = iv (upTo k0 (7 * 0))) := Lib.hid ⟨_, ho, rfl⟩
  clear ho
  go_enter Tryd.func11, Tryd.ntmps11
  go_wp2
  go_loopw [1, 5] (fun x i wr => ∃ (k : Nat) (z : Int), k ≤ n ∧ i = .int .i64 k ∧ x = .int .i64 z ∧ Hid (z = k0 + 7 * k) ∧ 1 ≤ z ∧ z ≤ 1000000000 + 7 * k ∧ Hid (w.grownBy wr (some g)) ∧ Hid (∃ xs : List Value, wr.ownsRow B 42 7 (.slice (some ⟨g, 0, none⟩) n cap) n xs ∧ xs.take (7 * k) = iv (upTo k0 (7 * k)))) (fun _ i _ => n - (intOf i).toNat)
  case atStart => exact ⟨0, k0, Nat.zero_le _, rfl, rfl, Lib.hid (by simp), h0, by omega, Lib.hid (World.grownBy.refl _ _), HO⟩
  case round =>
    obtain ⟨k, z, hk, rfl, rfl, hz, z1, z2, hb, hx⟩ := hrel
    by_cases hlt : k < n
    · obtain ⟨xs, hown, htk⟩ := hx.out
      have hxl := hown.1
      have cc : ∀ j, j < 7 → ∃ u, wr.cell? ⟨g, k * 7 + j, none⟩ = some u := fun j hj =>
        ⟨xs[k * 7 + j]'(by omega), (hown.cellAt (k * 7 + j) (by omega)).trans (List.getElem?_eq_getElem (by omega))⟩
      have ff : ∀ j, wr.frozen? ⟨g, k * 7 + j, none⟩ = false := fun j => hown.frozenAt (k * 7 + j)
      obtain ⟨u0, c0⟩ := cc 0 (by omega)
      obtain ⟨u1, c1⟩ := cc 1 (by omega)
      obtain ⟨u2, c2⟩ := cc 2 (by omega)
      obtain ⟨u3, c3⟩ := cc 3 (by omega)
      obtain ⟨u4, c4⟩ := cc 4 (by omega)
      obtain ⟨u5, c5⟩ := cc 5 (by omega)
      obtain ⟨u6, c6⟩ := cc 6 (by omega)
      rw [Nat.add_zero] at c0
      have f0 := ff 0
      have f1 := ff 1
      have f2 := ff 2
      have f3 := ff 3
      have f4 := ff 4
      have f5 := ff 5
      have f6 := ff 6
      rw [Nat.add_zero] at f0
      have hvs : iv (upTo k0 (7 * (k + 1))) = iv (upTo k0 (7 * k)) ++ [.int .i64 z, .int .i64 (z + 1), .int .i64 (z + 1 + 1), .int .i64 (z + 1 + 1 + 1), .int .i64 (z + 1 + 1 + 1 + 1), .int .i64 (z + 1 + 1 + 1 + 1 + 1), .int .i64 (z + 1 + 1 + 1 + 1 + 1 + 1)] := by
        rw [show 7 * (k + 1) = 7 * k + 1 + 1 + 1 + 1 + 1 + 1 + 1 by omega]
        simp only [upTo_snoc, hz.out]
        unfold iv
        simp only [List.map_append, List.map_cons, List.map_nil, List.append_assoc, List.cons_append, List.nil_append]
        simp
        try omega
      have HN : Hid (∃ ys : List Value, (wr.setCells g (k * 7) [.int .i64 z, .int .i64 (z + 1), .int .i64 (z + 1 + 1), .int .i64 (z + 1 + 1 + 1), .int .i64 (z + 1 + 1 + 1 + 1), .int .i64 (z + 1 + 1 + 1 + 1 + 1), .int .i64 (z + 1 + 1 + 1 + 1 + 1 + 1)]).ownsRow B 42 7 (.slice (some ⟨g, 0, none⟩) n cap) n ys ∧ ys.take (7 * (k + 1)) = iv (upTo k0 (7 * (k + 1)))) :=
        Lib.hid ⟨_, own_setCells _ (k * 7) hown, by
          rw [hvs, ← htk, show 7 * (k + 1) = k * 7 + 7 by omega, Nat.mul_comm 7 k]
          exact putAll_take [.int .i64 z, .int .i64 (z + 1), .int .i64 (z + 1 + 1), .int .i64 (z + 1 + 1 + 1), .int .i64 (z + 1 + 1 + 1 + 1), .int .i64 (z + 1 + 1 + 1 + 1 + 1), .int .i64 (z + 1 + 1 + 1 + 1 + 1 + 1)] xs (k * 7) (by show k * 7 + 7 ≤ _; omega)⟩
      have hnb := Lib.hid (only_setCells [.int .i64 z, .int .i64 (z + 1), .int .i64 (z + 1 + 1), .int .i64 (z + 1 + 1 + 1), .int .i64 (z + 1 + 1 + 1 + 1), .int .i64 (z + 1 + 1 + 1 + 1 + 1), .int .i64 (z + 1 + 1 + 1 + 1 + 1 + 1)] (k * 7) hb.out)
      clear hx hown htk hb cc ff hxl hvs
      go_wp2
      exact ⟨⟨k + 1, z + 1 + 1 + 1 + 1 + 1 + 1 + 1, by omega, by go_num, rfl, Lib.hid (by rw [hz.out]; push_cast; omega), by omega, by omega, hnb, HN⟩, by simp only [intOf]; omega⟩
    · have hkn : k = n := by omega
      subst hkn
      go_wp2
      go_ret
      obtain ⟨xs, hown, htk⟩ := hx.out
      have hxl := hown.1
      rw [List.take_of_length_le (by omega)] at htk
      rw [htk] at hown
      exact ⟨ret_int hz.out, hown, hb.out⟩
set_option maxHeartbeats 800000 in
/-- the same for a row that may be nil -/
theorem markLayerS_res (B : Nat) (w : World) (v : Value) (n : Nat) (zs : List Value) (k0 : Int) (h0 : 1 ≤ k0) (h1 : k0 ≤ 1000000000) (ho : w.ownsRow B 42 7 v n zs) (hl : n ≤ 1048576) (hB : B ≤ w.heap.size) :
    Calls Tryd.prog 11 #[v, .int .i64 k0] w fun e w' => e = .returned (.int .i64 (k0 + 7 * (n : Int))) ∧ w'.ownsRow B 42 7 v n (iv (upTo k0 (7 * n))) ∧ Below B w w' := by
  rcases Go.Joins.ownsRow_forms ho with ⟨rfl, hn⟩ | ⟨g, cap, rfl⟩
  · rw [hn]
    clear ho hn
    go_enter Tryd.func11, Tryd.ntmps11
    go_wp2
    refine wp_loop_rounds 1 ?_
    rw [rounds_succ]
    go_wp2
    go_ret
    exact ⟨ret_int (by simp), World.ownsRow_nil _ _ _ _, Below.refl _ _⟩
  · have hgB : B ≤ g := (World.ownsRow.lt ho g rfl).1
    exact (markLayerS_own B w g n cap zs k0 h0 h1 ho hl).mono fun _ _ ⟨he, ho', hg⟩ => ⟨he, ho', (Below.refl B w).grown hg hB (fun j hj => by
      simp only [Option.some.injEq] at hj; omega)⟩
end Go.Proofs.YtbdhdlgenfpjgaaDoor

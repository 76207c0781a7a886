/-
  A row of Stand of the call's own is marked: every field gets the next mark. No condition of its own.
-/
import Derived.Test.YtecobplmkdlagaaStdL
import Derived.Test.YtecobplmkdlagaaMark
namespace Go.Proofs.Ytecobplmkdlagaa
open Go.RowKit
set_option linter.unusedVariables false
set_option maxRecDepth 100000

/-- the one with the marks from k on -/
def mkStd (k : Nat) : Std := ⟨mkT (k + 0), ((k + 1 : Nat) : Int), ((k + 2 : Nat) : Int), ((k + 3 : Nat) : Int), ((k + 4 : Nat) : Int)⟩
/-- so many of them -/
def mksStd (k0 n : Nat) : List Std := (List.range n).map fun i => mkStd (k0 + 5 * i)
theorem mksStd_length (k0 n : Nat) : (mksStd k0 n).length = n := by unfold mksStd; simp
theorem mksStd_snoc (k0 n : Nat) : mksStd k0 (n + 1) = mksStd k0 n ++ [mkStd (k0 + 5 * n)] := by unfold mksStd; rw [List.range_succ, List.map_append]; rfl
theorem putAll_consStd (vs : List Value) (v : Value) (ys : List Value) (o : Nat) : putAll ys o (v :: vs) = putAll (ys.set o v) (o + 1) vs := rfl
theorem markText_at (k : Int) (w : World) (h1 : 1 ≤ k) (h2 : k ≤ 1000000000) :
    Calls Try.prog 60 #[.int .i64 k] w fun e w' => e = .returned (.string ⟨(mkT k.toNat).toArray⟩) ∧ Below w.heap.size w w' := by
  have := markText_any k.toNat w (by omega) (by omega)
  rwa [Int.toNat_of_nonneg (by omega)] at this

set_option maxHeartbeats 3200000 in
/-- marking a row of the call's own, 5 fields an element: only its block changes -/
theorem markStandS_own (B : Nat) (w : World) (g n cap : Nat) (zs : List Value) (k0 : Int) (h0 : 1 ≤ k0) (h1 : k0 ≤ 100000000) (ho : w.ownsRow B 34 5 (.slice (some ⟨g, 0, none⟩) n cap) n zs) (hl : n ≤ 1048576) :
    Calls Try.prog 25 #[.slice (some ⟨g, 0, none⟩) n cap, .int .i64 k0] w fun e w' => e = .returned (.int .i64 (k0 + 5 * (n : Int))) ∧ (∃ zs', w'.ownsRow B 34 5 (.slice (some ⟨g, 0, none⟩) n cap) n zs') ∧ w.grownBy w' (some g) := by
  have HO : Hid (∃ xs : List Value, w.ownsRow B 34 5 (.slice (some ⟨g, 0, none⟩) n cap) n xs) := Lib.hid ⟨_, ho⟩
  clear ho
  go_enter Try.func25, Try.ntmps25
  go_wp2
  go_loopw [1, 5] (fun x i wr => ∃ (k : Nat) (z : Int), k ≤ n ∧ i = .int .i64 k ∧ x = .int .i64 z ∧ Hid (z = k0 + 5 * k) ∧ 1 ≤ z ∧ z ≤ 100000000 + 5 * k ∧ Hid (w.grownBy wr (some g)) ∧ Hid (∃ xs : List Value, wr.ownsRow B 34 5 (.slice (some ⟨g, 0, none⟩) n cap) n xs)) (fun _ i _ => n - (intOf i).toNat)
  case atStart => exact ⟨0, k0, Nat.zero_le _, rfl, rfl, Lib.hid (by simp), h0, by omega, Lib.hid (World.grownBy.refl _ _), HO⟩
  case round =>
    obtain ⟨k, z, hk, rfl, rfl, hz, z1, z2, hb, hx⟩ := hrel
    by_cases hlt : k < n
    · obtain ⟨xs, hown⟩ := hx.out
      have hxl := hown.1
      have C0 := Lib.hid (fun W => markText_at (z) W (by omega) (by omega))
      go_wp2_with fail
      refine (C0.out _).mono ?_
      rintro e w0 ⟨rfl, b0⟩
      have own0 : w0.ownsRow B 34 5 (.slice (some ⟨g, 0, none⟩) n cap) n xs := own_belowAll hown b0
      have hg0 : Hid (w.grownBy w0 (some g)) := Lib.hid (only_trans hb.out (only_of_below b0 _))
      clear C0 b0
      have cc : ∀ j, j < 5 → ∃ u, w0.cell? ⟨g, k * 5 + j, none⟩ = some u := fun j hj => ⟨xs[k * 5 + j]'(by omega), (own0.cellAt (k * 5 + j) (by omega)).trans (List.getElem?_eq_getElem (by omega))⟩
      have ff : ∀ j, w0.frozen? ⟨g, k * 5 + j, none⟩ = false := fun j => own0.frozenAt (k * 5 + j)
      obtain ⟨u0, c0⟩ := cc 0 (by omega)
      obtain ⟨u1, c1⟩ := cc 1 (by omega)
      obtain ⟨u2, c2⟩ := cc 2 (by omega)
      obtain ⟨u3, c3⟩ := cc 3 (by omega)
      obtain ⟨u4, c4⟩ := cc 4 (by omega)
      rw [Nat.add_zero] at c0
      have f0 := ff 0
      have f1 := ff 1
      have f2 := ff 2
      have f3 := ff 3
      have f4 := ff 4
      rw [Nat.add_zero] at f0
      have HN : Hid (∃ ys : List Value, (w0.setCells g (k * 5) [.string ⟨(mkT z.toNat).toArray⟩, .int .i64 (z + 1), .int .i64 (z + 1 + 1), .int .i64 (z + 1 + 1 + 1), .int .i64 (z + 1 + 1 + 1 + 1)]).ownsRow B 34 5 (.slice (some ⟨g, 0, none⟩) n cap) n ys) := Lib.hid ⟨_, own_setCells _ (k * 5) own0⟩
      have hnb := Lib.hid (only_setCells [.string ⟨(mkT z.toNat).toArray⟩, .int .i64 (z + 1), .int .i64 (z + 1 + 1), .int .i64 (z + 1 + 1 + 1), .int .i64 (z + 1 + 1 + 1 + 1)] (k * 5) hg0.out)
      clear hx own0 hb cc ff hxl hown hg0
      generalize (mkT z.toNat).toArray = tx at *
      go_wp2
      exact ⟨⟨k + 1, z + 1 + 1 + 1 + 1 + 1, by omega, by go_num, rfl, Lib.hid (by rw [hz.out]; push_cast; omega), by omega, by omega, hnb, HN⟩, by simp only [intOf]; omega⟩
    · have hkn : k = n := by omega
      subst hkn
      go_wp2
      go_ret
      exact ⟨ret_int hz.out, hx.out, hb.out⟩
set_option maxHeartbeats 800000 in
/-- the same for a row that may be nil -/
theorem markStandS_res (B : Nat) (w : World) (v : Value) (n : Nat) (zs : List Value) (k0 : Int) (h0 : 1 ≤ k0) (h1 : k0 ≤ 100000000) (ho : w.ownsRow B 34 5 v n zs) (hl : n ≤ 1048576) (hB : B ≤ w.heap.size) :
    Calls Try.prog 25 #[v, .int .i64 k0] w fun e w' => e = .returned (.int .i64 (k0 + 5 * (n : Int))) ∧ (∃ zs', w'.ownsRow B 34 5 v n zs') ∧ Below B w w' := by
  rcases Go.Joins.ownsRow_forms ho with ⟨rfl, hn⟩ | ⟨g, cap, rfl⟩
  · rw [hn]
    clear ho hn
    go_enter Try.func25, Try.ntmps25
    go_wp2
    refine wp_loop_rounds 1 ?_
    rw [rounds_succ]
    go_wp2
    go_ret
    exact ⟨ret_int (by simp), ⟨[], World.ownsRow_nil _ _ _ _⟩, Below.refl _ _⟩
  · have hgB : B ≤ g := (World.ownsRow.lt ho g rfl).1
    exact (markStandS_own B w g n cap zs k0 h0 h1 ho hl).mono fun _ _ ⟨he, ho', hg⟩ => ⟨he, ho', (Below.refl B w).grown hg hB (fun j hj => by
      simp only [Option.some.injEq] at hj; omega)⟩
end Go.Proofs.Ytecobplmkdlagaa

/-
  Bytes that came in; what the laws choose out of them. No condition of its own.
-/
import Derived.Test.YtfbfdiejffjbmaaSrc
namespace Go.Proofs.Ytfbfdiejffjbmaa
open Go.RowKit
set_option linter.unusedVariables false

/-- bytes that came in, as the source reads them -/
theorem Bs.of_row {w : World} {a : Option Addr} {len cap : Nat} {zs : List Int}
    (h : (a = none ∧ len = 0 ∧ cap = 0 ∧ zs = []) ∨ ∃ x, a = some x ∧ len ≤ cap ∧ cap ≤ maxLen ∧ zs.length = cap ∧ (∀ i, i < zs.length → w.cell? (x.add i) = some (.int .u8 (zs.getD i 0))) ∧ ∀ n ∈ zs, (Lit.int .u8 n).wf = true) :
    Bs w.heap.size w (.slice a len cap) len := by
  rcases h with ⟨rfl, rfl, rfl, rfl⟩ | ⟨x, rfl, hl, hm, hz, hc, hw⟩
  · exact Or.inl ⟨rfl, _, _, rfl⟩
  · rcases Nat.eq_zero_or_pos len with h0 | h0
    · subst h0; exact Or.inl ⟨rfl, _, _, rfl⟩
    · obtain ⟨b, off, rfl, hc'⟩ := ints_at hc (by omega)
      have c0 := hc' 0 (by omega)
      refine Or.inr ⟨b, off, cap, rfl, World.block_lt_of_cell? w _ c0, fun j hj => ?_⟩
      have hr := range_u8 hw j
      refine ⟨zs[j]?.getD 0, hr.1, hr.2, ?_⟩
      rw [hc' j (by omega), List.getD_eq_getElem?_getD]
theorem Bs.mono {B B' : Nat} {w : World} {v : Value} {n : Nat} (h : Bs B w v n) (hb : B ≤ B') : Bs B' w v n := by
  rcases h with h | ⟨b, off, cap, hv, hlt, hc⟩
  · exact Or.inl h
  · exact Or.inr ⟨b, off, cap, hv, Nat.lt_of_lt_of_le hlt hb, hc⟩
theorem r8Long_no (w : World) (a b : Option Addr) (n m cn cm : Nat) (h1 : n ≤ 1048576) (h2 : m ≤ 1048576) :
    Calls Try.prog 40 #[.slice a n cn, .slice b m cm] w fun e w' => e = .returned (.bool false) ∧ w = w' := by
  have h3 : ¬ (1048576 : Int) < n := by omega
  have h4 : ¬ (1048576 : Int) < m := by omega
  go_enter Try.func40, Try.ntmps40
  go_wp2
  go_ret
  exact ⟨rfl, rfl⟩
theorem r8Long_yes (w : World) (a b : Option Addr) (n m cn cm : Nat) (h : 1048576 < n ∨ 1048576 < m) :
    Calls Try.prog 40 #[.slice a n cn, .slice b m cm] w fun e w' => e = .returned (.bool true) ∧ w = w' := by
  by_cases h1 : 1048576 < n
  · have h3 : (1048576 : Int) < n := by omega
    clear h
    go_enter Try.func40, Try.ntmps40
    go_wp2
    go_ret
    exact ⟨rfl, rfl⟩
  · have h3 : ¬ (1048576 : Int) < n := by omega
    have h4 : (1048576 : Int) < m := by omega
    clear h
    go_enter Try.func40, Try.ntmps40
    go_wp2
    go_ret
    exact ⟨rfl, rfl⟩
set_option maxHeartbeats 800000 in
theorem r8At_any (B : Nat) (w : World) (v : Value) (n : Nat) (k : Int) (hv : Bs B w v n) (hk0 : 0 ≤ k) (hk1 : k ≤ 100000) (hl : n ≤ 1048576) :
    Calls Try.prog 95 #[v, .int .i64 k, .int .i64 256] w fun e w' => ∃ x : Int, e = .returned (.int .i64 x) ∧ 0 ≤ x ∧ x ≤ 255 ∧ Below B w w' := by
  obtain ⟨a, cap, rfl⟩ := hv.form
  obtain ⟨j, rfl⟩ := Int.eq_ofNat_of_zero_le hk0
  by_cases hj : j < n
  · obtain ⟨b, off, rfl, hb, x, x0, x1, hc⟩ := hv.byte hj
    have hj2 : ¬ (n : Int) ≤ j := by omega
    clear hv
    have t0 := Int.emod_nonneg x (b := 256) (by omega)
    have t1 := Int.emod_lt_of_pos x (b := 256) (by omega)
    go_enter Try.func95, Try.ntmps95
    go_wp2
    go_ret
    exact ⟨_, rfl, t0, by omega, by first | exact Below.refl _ _ | exact below_drewN (Below.refl _ _) _⟩
  · have hj2 : (n : Int) ≤ j := by omega
    clear hv
    go_enter Try.func95, Try.ntmps95
    go_wp2
    go_ret
    exact ⟨_, rfl, by omega, by omega, by first | exact Below.refl _ _ | exact below_drewN (Below.refl _ _) _⟩
set_option maxHeartbeats 800000 in
theorem r8Wide_any (B : Nat) (w : World) (v : Value) (n : Nat) (k m : Int) (hv : Bs B w v n) (hk0 : 0 ≤ k) (hk1 : k ≤ 90000) (hm0 : 1 ≤ m) (hm1 : m ≤ 1000000) (hl : n ≤ 1048576) :
    Calls Try.prog 42 #[v, .int .i64 k, .int .i64 m] w fun e w' => ∃ x : Int, e = .returned (.int .i64 x) ∧ 0 ≤ x ∧ x ≤ m - 1 ∧ Below B w w' := by
  obtain ⟨a, cap, rfl⟩ := hv.form
  have HV := Lib.hid hv
  have C := Lib.hid (fun (W : World) (j : Int) (h : Bs B W (.slice a n cap) n) (h0 : 0 ≤ j) (h1 : j ≤ 100000) => r8At_any B W (.slice a n cap) n j h h0 h1 hl)
  clear hv
  go_enter Try.func42, Try.ntmps42
  go_wp2_with fail
  refine (C.out w k HV.out hk0 (by omega)).mono ?_
  rintro e w1 ⟨x, rfl, x0, x1, b1⟩
  have B1 := Lib.hid b1
  clear b1
  go_wp2_with fail
  refine (C.out w1 (k + 1) (HV.out.below B1.out) (by omega) (by omega)).mono ?_
  rintro e w2 ⟨y, rfl, y0, y1, b2⟩
  have B2 := Lib.hid (B1.out.trans b2)
  clear b2
  have t0 := Int.emod_nonneg (256 * x + y) (b := m) (by omega)
  have t1 := Int.emod_lt_of_pos (256 * x + y) (b := m) (by omega)
  go_wp2_with fail
  go_ret
  exact ⟨_, rfl, t0, by omega, B2.out⟩
end Go.Proofs.Ytfbfdiejffjbmaa

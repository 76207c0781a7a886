import Derived.Test.YtommcckihanedaaGreatDoorInts
import Derived.Laws.Bits64b
namespace Go.Proofs.YtommcckihanedaaGreatDoor
open Go.RowKit
set_option linter.unusedVariables false

/-- a slice of bytes whose row lies below B -/
def Bs (B : Nat) (w : World) (v : Value) (n : Nat) : Prop :=
  (n = 0 ∧ ∃ a cap, v = .slice a 0 cap) ∨ ∃ b off cap, v = .slice (some ⟨b, off, none⟩) n cap ∧ b < B ∧ ∀ j, j < n → ∃ x : Int, 0 ≤ x ∧ x ≤ 255 ∧ w.cell? ⟨b, off + j, none⟩ = some (.int .u8 x)
theorem Bs.below {B : Nat} {w w1 : World} {v : Value} {n : Nat} (h : Bs B w v n) (hb : Below B w w1) : Bs B w1 v n := by
  rcases h with h | ⟨b, off, cap, rfl, hlt, hc⟩
  · exact Or.inl h
  · exact Or.inr ⟨b, off, cap, rfl, hlt, fun j hj => by
      obtain ⟨x, h0, h1, h2⟩ := hc j hj
      exact ⟨x, h0, h1, (hb.cell (p := ⟨b, off + j, none⟩) hlt).trans h2⟩⟩
theorem Bs.form {B : Nat} {w : World} {v : Value} {n : Nat} (h : Bs B w v n) : ∃ a cap, v = .slice a n cap := by
  rcases h with ⟨rfl, a, cap, rfl⟩ | ⟨b, off, cap, rfl, _⟩ <;> exact ⟨_, _, rfl⟩
theorem Bs.byte {B : Nat} {w : World} {a : Option Addr} {cap n j : Nat} (h : Bs B w (.slice a n cap) n) (hj : j < n) : ∃ b off, a = some ⟨b, off, none⟩ ∧ b < B ∧ ∃ x : Int, 0 ≤ x ∧ x ≤ 255 ∧ w.cell? ⟨b, off + j, none⟩ = some (.int .u8 x) := by
  rcases h with ⟨rfl, _⟩ | ⟨b, off, cap', he, hlt, hc⟩
  · omega
  · simp only [Value.slice.injEq] at he
    exact ⟨b, off, he.1, hlt, hc j hj⟩

/-- the source of choices in block g -/
def Src (w : World) (g : Nat) (v : Value) (k s : Int) : Prop := w.heap[g]? = some (.cells #[v, .int .i64 k, .int .u64 s] 65 (0, 0))
theorem Src.c0 {w : World} {g : Nat} {v : Value} {k s : Int} (h : Src w g v k s) : w.cell? ⟨g, 0, none⟩ = some v := by unfold Src at h; unfold World.cell?; simp [h]
theorem Src.c1 {w : World} {g : Nat} {v : Value} {k s : Int} (h : Src w g v k s) : w.cell? ⟨g, 1, none⟩ = some (.int .i64 k) := by unfold Src at h; unfold World.cell?; simp [h]
theorem Src.c2 {w : World} {g : Nat} {v : Value} {k s : Int} (h : Src w g v k s) : w.cell? ⟨g, 2, none⟩ = some (.int .u64 s) := by unfold Src at h; unfold World.cell?; simp [h]
theorem Src.fz {w : World} {g : Nat} {v : Value} {k s : Int} (h : Src w g v k s) (j : Nat) : w.frozen? ⟨g, j, none⟩ = false := by unfold Src at h; unfold World.frozen?; simp [h]
theorem Src.lt {w : World} {g : Nat} {v : Value} {k s : Int} (h : Src w g v k s) : g < w.heap.size := by
  unfold Src at h; exact (Array.getElem?_eq_some_iff.1 h).1
theorem Src.set1 {w : World} {g : Nat} {v : Value} {k s : Int} (h : Src w g v k s) (x : Int) : Src (w.setCell ⟨g, 1, none⟩ (.int .i64 x)) g v x s := by
  unfold Src at *; unfold World.setCell; simp [Array.getElem?_modify, h]
theorem Src.set2 {w : World} {g : Nat} {v : Value} {k s : Int} (h : Src w g v k s) (x : Int) : Src (w.setCell ⟨g, 2, none⟩ (.int .u64 x)) g v k x := by
  unfold Src at *; unfold World.setCell; simp [Array.getElem?_modify, h]
theorem Src.drewN {w : World} {g : Nat} {v : Value} {k s : Int} (h : Src w g v k s) (n : Nat) : Src (w.drewN n) g v k s := by
  unfold Src at *; simpa using h

set_option maxHeartbeats 1600000 in
theorem next_in (B : Nat) (w : World) (g n cap : Nat) (a : Option Addr) (k : Nat) (s : Int) (hs : Src w g (.slice a n cap) k s) (hv : Bs B w (.slice a n cap) n) (hg : B ≤ g) (hk : k < n) (hl : n ≤ 1048576) :
    Calls Tryz.prog 38 #[.pointer (some ⟨g, 0, none⟩)] w fun e w' => ∃ x s' : Int, e = .returned (.int .i64 x) ∧ 0 ≤ x ∧ x ≤ 255 ∧ Src w' g (.slice a n cap) ((k + 1 : Nat) : Int) s' ∧ Below B w w' := by
  obtain ⟨b, off, rfl, hb, x, x0, x1, hc⟩ := hv.byte hk
  have c0 := hs.c0
  have c1 := hs.c1
  have c2 := hs.c2
  have f1 := hs.fz 1
  have f2 := hs.fz 2
  have S := Lib.hid hs
  clear hs hv
  have hkn : (k : Int) < n := by omega
  go_enter Tryz.func38, Tryz.ntmps38
  go_wp2
  go_quiet (fail)
  go_wp2
  go_quiet (fail)
  go_wp2
  go_quiet (fail)
  go_wp2
  go_ret
  exact ⟨x, _, rfl, x0, x1, by rw [show ((k + 1 : Nat) : Int) = k + 1 from by omega]; exact (((S.out.drewN _).set1 _).set2 _).drewN _, below_drewN (((below_drewN (Below.refl _ _) _).setCell hg _).setCell hg _) _⟩
theorem and255 (t : Int) : 0 ≤ wrap64 (bits .and .u64 (IntKind.u64.wrap t / 1099511627776) 255) ∧ wrap64 (bits .and .u64 (IntKind.u64.wrap t / 1099511627776) 255) ≤ 255 := by
  have hy : 0 ≤ IntKind.u64.wrap t / 1099511627776 ∧ IntKind.u64.wrap t / 1099511627776 < 18446744073709551616 := by rw [u64_wrap]; omega
  generalize IntKind.u64.wrap t / 1099511627776 = y at *
  obtain ⟨m, rfl⟩ := Int.eq_ofNat_of_zero_le hy.1
  have e := bits_and_u64_nat m 255 (by omega) (by omega)
  rw [show ((255 : Nat) : Int) = 255 from rfl] at e
  rw [e]
  have := Nat.and_le_right (n := m) (m := 255)
  generalize m &&& 255 = z at *
  unfold wrap64
  omega
set_option maxHeartbeats 1600000 in
theorem next_out (B : Nat) (w : World) (g n cap : Nat) (a : Option Addr) (k : Nat) (s : Int) (hs : Src w g (.slice a n cap) k s) (hg : B ≤ g) (hk : n ≤ k) (hl : k ≤ 2000000) :
    Calls Tryz.prog 38 #[.pointer (some ⟨g, 0, none⟩)] w fun e w' => ∃ x s' : Int, e = .returned (.int .i64 x) ∧ 0 ≤ x ∧ x ≤ 255 ∧ Src w' g (.slice a n cap) ((k + 1 : Nat) : Int) s' ∧ Below B w w' := by
  have c0 := hs.c0
  have c1 := hs.c1
  have c2 := hs.c2
  have f1 := hs.fz 1
  have f2 := hs.fz 2
  have S := Lib.hid hs
  clear hs
  have hkn : (n : Int) ≤ k := by omega
  go_enter Tryz.func38, Tryz.ntmps38
  go_wp2
  go_quiet (fail)
  go_wp2
  go_quiet (fail)
  go_wp2
  go_ret
  exact ⟨_, _, rfl, (and255 _).1, (and255 _).2, by rw [show ((k + 1 : Nat) : Int) = k + 1 from by omega]; exact (((S.out.drewN _).set1 _).set2 _).drewN _, below_drewN (((below_drewN (Below.refl _ _) _).setCell hg _).setCell hg _) _⟩
theorem next_any (B : Nat) (w : World) (g n : Nat) (v : Value) (k : Nat) (s : Int) (hs : Src w g v k s) (hv : Bs B w v n) (hg : B ≤ g) (hk : k ≤ 2000000) (hl : n ≤ 1048576) :
    Calls Tryz.prog 38 #[.pointer (some ⟨g, 0, none⟩)] w fun e w' => ∃ x s' : Int, e = .returned (.int .i64 x) ∧ 0 ≤ x ∧ x ≤ 255 ∧ Src w' g v ((k + 1 : Nat) : Int) s' ∧ Below B w w' := by
  obtain ⟨a, cap, rfl⟩ := hv.form
  by_cases h : k < n
  · exact next_in B w g n cap a k s hs hv hg h hl
  · exact next_out B w g n cap a k s hs hg (by omega) hk
set_option maxHeartbeats 1600000 in
theorem pick_big (B : Nat) (w : World) (g n : Nat) (v : Value) (k : Nat) (s m : Int) (hs : Src w g v k s) (hv : Bs B w v n) (hg : B ≤ g) (hk : k ≤ 1000000) (hl : n ≤ 1048576) (hm : 200 < m) (hm2 : m ≤ 60000) :
    Calls Tryz.prog 20 #[.pointer (some ⟨g, 0, none⟩), .int .i64 m] w fun e w' => ∃ x s' : Int, e = .returned (.int .i64 x) ∧ 0 ≤ x ∧ x ≤ m - 1 ∧ Src w' g v ((k + 2 : Nat) : Int) s' ∧ Below B w w' := by
  have C := Lib.hid (fun (w : World) (k : Nat) (s : Int) (h1 : Src w g v k s) (h2 : Bs B w v n) (h3 : k ≤ 2000000) => next_any B w g n v k s h1 h2 hg h3 hl)
  have HS := Lib.hid hs
  have HV := Lib.hid hv
  clear hs hv
  go_enter Tryz.func20, Tryz.ntmps20
  go_wp2_with fail
  refine (C.out w k s HS.out HV.out (by omega)).mono ?_
  rintro e w1 ⟨x, s1, rfl, x0, x1, S1, b1⟩
  have HS1 := Lib.hid S1
  have HB1 := Lib.hid b1
  clear S1 b1
  go_wp2_with fail
  refine (C.out w1 (k + 1) s1 HS1.out (HV.out.below HB1.out) (by omega)).mono ?_
  rintro e w2 ⟨y, s2, rfl, y0, y1, S2, b2⟩
  have HS2 := Lib.hid S2
  have HB2 := Lib.hid (HB1.out.trans b2)
  clear S2 b2
  have t0 := Int.emod_nonneg (x * 256 + y) (b := m) (by omega)
  have t1 := Int.emod_lt_of_pos (x * 256 + y) (b := m) (by omega)
  go_wp2_with fail
  go_ret
  exact ⟨_, _, rfl, t0, by omega, HS2.out, HB2.out⟩
theorem l00From_any (a : Option Addr) (n cap : Nat) (w : World) :
    Calls Tryz.prog 17 #[.slice a n cap] w fun e w' => e = .returned (.pointer (some ⟨w.heap.size, 0, none⟩)) ∧ Src w' w.heap.size (.slice a n cap) ((0 : Nat) : Int) 0 ∧ Below w.heap.size w w' := by
  go_enter Tryz.func17, Tryz.ntmps17
  go_wp2
  go_ret
  refine ⟨rfl, ?_, ?_⟩
  · unfold Src World.alloc; simp
  · exact (Below.refl _ _).alloc (Nat.le_refl _) _
theorem mul_bd9 {a b : Int} (a0 : 0 ≤ a) (a1 : a ≤ 59999) (b0 : 0 ≤ b) (b1 : b ≤ 59999) : 0 ≤ a * b ∧ a * b ≤ 3599880001 := by
  have h1 := Int.mul_nonneg a0 b0
  have h2 := Int.mul_le_mul a1 b1 b0 (by omega)
  omega
end Go.Proofs.YtommcckihanedaaGreatDoor

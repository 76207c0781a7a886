/-
  The source of choices once more: what it leaves as it was besides its own block; small choices; one of eight numbers; a day. No condition but the bytes' number.
-/
import Derived.Test.YtommcckihanedaaGreatDoorSrc
import Derived.Laws.Rows
namespace Go.Proofs.YtommcckihanedaaGreatDoor
open Go.RowKit
set_option linter.unusedVariables false

/-- all blocks but one lie as they did -/
def KeepB (g : Nat) (w w' : World) : Prop := w.heap.size ≤ w'.heap.size ∧ ∀ b, b < w.heap.size → b ≠ g → w'.heap[b]? = w.heap[b]?
theorem KeepB.cell {g : Nat} {w w' : World} (h : KeepB g w w') {p : Addr} (hp : p.block < w.heap.size) (hne : p.block ≠ g) : w'.cell? p = w.cell? p := by
  unfold World.cell?; rw [h.2 p.block hp hne]
theorem KeepB.drewN {g : Nat} {w w' : World} (h : KeepB g w w') (n : Nat) : KeepB g w (w'.drewN n) := h
theorem KeepB.refl (g : Nat) (w : World) : KeepB g w w := ⟨Nat.le_refl _, fun _ _ _ => rfl⟩
theorem KeepB.set {g : Nat} {w w' : World} (h : KeepB g w w') (i : Nat) (v : Value) : KeepB g w (w'.setCell ⟨g, i, none⟩ v) :=
  ⟨by rw [World.setCell]; simpa using h.1, fun b hb hne => (heap_setCell_other w' ⟨g, i, none⟩ b v hne).trans (h.2 b hb hne)⟩
set_option maxHeartbeats 1600000 in
theorem nextk_in (B : Nat) (w : World) (g n cap : Nat) (a : Option Addr) (k : Nat) (s : Int) (hs : Src w g (.slice a n cap) k s) (hv : Bs B w (.slice a n cap) n) (hg : B ≤ g) (hk : k < n) (hl : n ≤ 1048576) :
    Calls Tryz.prog 38 #[.pointer (some ⟨g, 0, none⟩)] w fun e w' => ∃ x s' : Int, e = .returned (.int .i64 x) ∧ 0 ≤ x ∧ x ≤ 255 ∧ Src w' g (.slice a n cap) ((k + 1 : Nat) : Int) s' ∧ Below B w w' ∧ KeepB g w w' := by
  obtain ⟨b, off, rfl, hb, x, x0, x1, hc⟩ := hv.byte hk
  have c0 := hs.c0
  have c1 := hs.c1
  have c2 := hs.c2
  have f1 := hs.fz 1
  have f2 := hs.fz 2
  have S := Lib.hid hs
  clear hs hv
  have hkn : (k : Int) < n := by omega
  go_enter Tryz.func38, Tryz.ntmps38
  go_wp2
  go_quiet (fail)
  go_wp2
  go_quiet (fail)
  go_wp2
  go_quiet (fail)
  go_wp2
  go_ret
  exact ⟨x, _, rfl, x0, x1, by rw [show ((k + 1 : Nat) : Int) = k + 1 from by omega]; exact (((S.out.drewN _).set1 _).set2 _).drewN _, below_drewN (((below_drewN (Below.refl _ _) _).setCell hg _).setCell hg _) _, (((((KeepB.refl _ _).drewN _).set _ _).set _ _).drewN _)⟩
set_option maxHeartbeats 1600000 in
theorem nextk_out (B : Nat) (w : World) (g n cap : Nat) (a : Option Addr) (k : Nat) (s : Int) (hs : Src w g (.slice a n cap) k s) (hg : B ≤ g) (hk : n ≤ k) (hl : k ≤ 2000000) :
    Calls Tryz.prog 38 #[.pointer (some ⟨g, 0, none⟩)] w fun e w' => ∃ x s' : Int, e = .returned (.int .i64 x) ∧ 0 ≤ x ∧ x ≤ 255 ∧ Src w' g (.slice a n cap) ((k + 1 : Nat) : Int) s' ∧ Below B w w' ∧ KeepB g w w' := by
  have c0 := hs.c0
  have c1 := hs.c1
  have c2 := hs.c2
  have f1 := hs.fz 1
  have f2 := hs.fz 2
  have S := Lib.hid hs
  clear hs
  have hkn : (n : Int) ≤ k := by omega
  go_enter Tryz.func38, Tryz.ntmps38
  go_wp2
  go_quiet (fail)
  go_wp2
  go_quiet (fail)
  go_wp2
  go_ret
  exact ⟨_, _, rfl, (and255 _).1, (and255 _).2, by rw [show ((k + 1 : Nat) : Int) = k + 1 from by omega]; exact (((S.out.drewN _).set1 _).set2 _).drewN _, below_drewN (((below_drewN (Below.refl _ _) _).setCell hg _).setCell hg _) _, (((((KeepB.refl _ _).drewN _).set _ _).set _ _).drewN _)⟩
theorem nextk_any (B : Nat) (w : World) (g n : Nat) (v : Value) (k : Nat) (s : Int) (hs : Src w g v k s) (hv : Bs B w v n) (hg : B ≤ g) (hk : k ≤ 2000000) (hl : n ≤ 1048576) :
    Calls Tryz.prog 38 #[.pointer (some ⟨g, 0, none⟩)] w fun e w' => ∃ x s' : Int, e = .returned (.int .i64 x) ∧ 0 ≤ x ∧ x ≤ 255 ∧ Src w' g v ((k + 1 : Nat) : Int) s' ∧ Below B w w' ∧ KeepB g w w' := by
  obtain ⟨a, cap, rfl⟩ := hv.form
  by_cases h : k < n
  · exact nextk_in B w g n cap a k s hs hv hg h hl
  · exact nextk_out B w g n cap a k s hs hg (by omega) hk
set_option maxHeartbeats 1600000 in
theorem pick_small (B : Nat) (w : World) (g n : Nat) (v : Value) (k : Nat) (s m : Int) (hs : Src w g v k s) (hv : Bs B w v n) (hg : B ≤ g) (hk : k ≤ 1000000) (hl : n ≤ 1048576) (hm : 1 < m) (hm2 : m ≤ 200) :
    Calls Tryz.prog 20 #[.pointer (some ⟨g, 0, none⟩), .int .i64 m] w fun e w' => ∃ x s' : Int, e = .returned (.int .i64 x) ∧ 0 ≤ x ∧ x ≤ m - 1 ∧ Src w' g v ((k + 1 : Nat) : Int) s' ∧ Below B w w' ∧ KeepB g w w' := by
  have C := Lib.hid (nextk_any B w g n v k s hs hv hg (by omega) hl)
  clear hs hv
  go_enter Tryz.func20, Tryz.ntmps20
  go_wp2_with fail
  refine C.out.mono ?_
  rintro e w1 ⟨x, s1, rfl, x0, x1, S1, b1, k1⟩
  have HS1 := Lib.hid S1
  have HB1 := Lib.hid b1
  have HK1 := Lib.hid k1
  clear S1 b1 k1
  have t0 := Int.emod_nonneg x (b := m) (by omega)
  have t1 := Int.emod_lt_of_pos x (b := m) (by omega)
  go_wp2_with fail
  go_ret
  exact ⟨_, _, rfl, t0, by omega, HS1.out, HB1.out, HK1.out⟩
set_option maxHeartbeats 1600000 in
theorem one_any (B : Nat) (w : World) (g n : Nat) (v : Value) (k : Nat) (s m : Int) (hs : Src w g v k s) (hv : Bs B w v n) (hg : B ≤ g) (hk : k ≤ 1000000) (hl : n ≤ 1048576) (hm : 1 < m) (hm2 : m ≤ 200) :
    Calls Tryz.prog 18 #[.pointer (some ⟨g, 0, none⟩), .int .i64 m] w fun e w' => ∃ (b : Bool) (s' : Int), e = .returned (.bool b) ∧ Src w' g v ((k + 1 : Nat) : Int) s' ∧ Below B w w' ∧ KeepB g w w' := by
  have C := Lib.hid (pick_small B w g n v k s m hs hv hg hk hl hm hm2)
  clear hs hv
  go_enter Tryz.func18, Tryz.ntmps18
  go_wp2_with fail
  refine C.out.mono ?_
  rintro e w1 ⟨x, s1, rfl, x0, x1, S1, b1, k1⟩
  have HS1 := Lib.hid S1
  have HB1 := Lib.hid b1
  have HK1 := Lib.hid k1
  clear S1 b1 k1
  go_wp2_with fail
  go_ret
  exact ⟨_, _, rfl, HS1.out, HB1.out, HK1.out⟩
set_option maxHeartbeats 1600000 in
theorem among_any (B : Nat) (w : World) (g n : Nat) (v : Value) (k : Nat) (s : Int) (q cq : Nat) (zs : List Int) (hs : Src w g v k s) (hv : Bs B w v n) (hg : B ≤ g) (hk : k ≤ 1000000) (hl : n ≤ 1048576) (h1 : 1 < zs.length) (h2 : zs.length ≤ 200)
    (hq : q < w.heap.size) (hqg : q ≠ g) (hc : ∀ j z, zs[j]? = some z → w.cell? ⟨q, j, none⟩ = some (.int .i64 z)) :
    Calls Tryz.prog 19 #[.pointer (some ⟨g, 0, none⟩), .slice (some ⟨q, 0, none⟩) zs.length cq] w fun e w' => ∃ (x s' : Int), e = .returned (.int .i64 x) ∧ x ∈ zs ∧ Src w' g v ((k + 1 : Nat) : Int) s' ∧ Below B w w' ∧ KeepB g w w' := by
  have C := Lib.hid (pick_small B w g n v k s zs.length hs hv hg hk hl (by omega) (by omega))
  have HC := Lib.hid hc
  clear hs hv hc
  go_enter Tryz.func19, Tryz.ntmps19
  go_wp2_with fail
  refine C.out.mono ?_
  rintro e w1 ⟨x, s1, rfl, x0, x1, S1, b1, k1⟩
  obtain ⟨j, rfl⟩ := Int.eq_ofNat_of_zero_le x0
  have hj : j < zs.length := by omega
  have c1 : w1.cell? ⟨q, j, none⟩ = some (.int .i64 zs[j]) := (k1.cell (p := ⟨q, j, none⟩) hq hqg).trans (HC.out j _ (List.getElem?_eq_getElem hj))
  have HM := Lib.hid (List.getElem_mem hj)
  have HS1 := Lib.hid S1
  have HB1 := Lib.hid b1
  have HK1 := Lib.hid k1
  clear S1 b1 k1
  generalize zs[j] = z at *
  go_wp2_with fail
  go_ret
  exact ⟨_, _, rfl, HM.out, HS1.out, HB1.out, HK1.out⟩
theorem new_cells (w : World) (t : TypeId) (zs : List Int) : ∀ j z, zs[j]? = some z → (w.alloc (.cells (iv zs).toArray t)).cell? ⟨w.heap.size, j, none⟩ = some (.int .i64 z) := by
  intro j z hz
  have e := iv_at hz
  simp [e]
theorem alloc_size8 (w : World) (o : Obj) : (w.alloc o).heap.size = w.heap.size + 1 := by simp
theorem src_alloc {w : World} {g : Nat} {v : Value} {k s : Int} (h : Src w g v k s) (o : Obj) : Src (w.alloc o) g v k s := by
  have hl := h.lt
  unfold Src at *
  rw [← h]
  unfold World.alloc; simp [Array.getElem?_push, Nat.ne_of_lt hl]
end Go.Proofs.YtommcckihanedaaGreatDoor

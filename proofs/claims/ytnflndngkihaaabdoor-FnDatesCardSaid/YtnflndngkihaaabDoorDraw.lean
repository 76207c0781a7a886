/-
  The source of choices once more: what it leaves as it was besides its own block; small choices; one of eight numbers; a day. No condition but the bytes' number.
-/
import Derived.Test.YtnflndngkihaaabDoorSrc
import Derived.Laws.Rows
namespace Go.Proofs.YtnflndngkihaaabDoor
open Go.RowKit
set_option linter.unusedVariables false

/-- all blocks but one lie as they did -/
def KeepB (g : Nat) (w w' : World) : Prop := w.heap.size ≤ w'.heap.size ∧ ∀ b, b < w.heap.size → b ≠ g → w'.heap[b]? = w.heap[b]?
theorem KeepB.cell {g : Nat} {w w' : World} (h : KeepB g w w') {p : Addr} (hp : p.block < w.heap.size) (hne : p.block ≠ g) : w'.cell? p = w.cell? p := by
  unfold World.cell?; rw [h.2 p.block hp hne]
theorem KeepB.drewN {g : Nat} {w w' : World} (h : KeepB g w w') (n : Nat) : KeepB g w (w'.drewN n) := h
theorem KeepB.refl (g : Nat) (w : World) : KeepB g w w := ⟨Nat.le_refl _, fun _ _ _ => rfl⟩
theorem KeepB.set {g : Nat} {w w' : World} (h : KeepB g w w') (i : Nat) (v : Value) : KeepB g w (w'.setCell ⟨g, i, none⟩ v) :=
  ⟨by rw [World.setCell]; simpa using h.1, fun b hb hne => (heap_setCell_other w' ⟨g, i, none⟩ b v hne).trans (h.2 b hb hne)⟩
set_option maxHeartbeats 1600000 in
theorem nextk_in (B : Nat) (w : World) (g n cap : Nat) (a : Option Addr) (k : Nat) (s : Int) (hs : Src w g (.slice a n cap) k s) (hv : Bs B w (.slice a n cap) n) (hg : B ≤ g) (hk : k < n) (hl : n ≤ 1048576) :
    Calls Tryd.prog 70 #[.pointer (some ⟨g, 0, none⟩)] w fun e w' => ∃ x s' : Int, e = .returned (.int .i64 x) ∧ 0 ≤ x ∧ x ≤ 255 ∧ Src w' g (.slice a n cap) ((k + 1 : Nat) : Int) s' ∧ Below B w w' ∧ KeepB g w w' := by
  obtain ⟨b, off, rfl, hb, x, x0, x1, hc⟩ := hv.byte hk
  have c0 := hs.c0
  have c1 := hs.c1
  have c2 := hs.c2
  have f1 := hs.fz 1
  have f2 := hs.fz 2
  have S := Lib.hid hs
  clear hs hv
  have hkn : (k : Int) < n := by omega
  go_enter Tryd.func70, Tryd.ntmps70
  go_wp2
  go_quiet (fail)
  go_wp2
  go_quiet (fail)
  go_wp2
  go_quiet (fail)
  go_wp2
  go_ret
  exact ⟨x, _, rfl, x0, x1, by rw [show ((k + 1 : Nat) : Int) = k + 1 from by omega]; exact (((S.out.drewN _).set1 _).set2 _).drewN _, below_drewN (((below_drewN (Below.refl _ _) _).setCell hg _).setCell hg _) _, (((((KeepB.refl _ _).drewN _).set _ _).set _ _).drewN _)⟩
set_option maxHeartbeats 1600000 in
theorem nextk_out (B : Nat) (w : World) (g n cap : Nat) (a : Option Addr) (k : Nat) (s : Int) (hs : Src w g (.slice a n cap) k s) (hg : B ≤ g) (hk : n ≤ k) (hl : k ≤ 2000000) :
    Calls Tryd.prog 70 #[.pointer (some ⟨g, 0, none⟩)] w fun e w' => ∃ x s' : Int, e = .returned (.int .i64 x) ∧ 0 ≤ x ∧ x ≤ 255 ∧ Src w' g (.slice a n cap) ((k + 1 : Nat) : Int) s' ∧ Below B w w' ∧ KeepB g w w' := by
  have c0 := hs.c0
  have c1 := hs.c1
  have c2 := hs.c2
  have f1 := hs.fz 1
  have f2 := hs.fz 2
  have S := Lib.hid hs
  clear hs
  have hkn : (n : Int) ≤ k := by omega
  go_enter Tryd.func70, Tryd.ntmps70
  go_wp2
  go_quiet (fail)
  go_wp2
  go_quiet (fail)
  go_wp2
  go_ret
  exact ⟨_, _, rfl, (and255 _).1, (and255 _).2, by rw [show ((k + 1 : Nat) : Int) = k + 1 from by omega]; exact (((S.out.drewN _).set1 _).set2 _).drewN _, below_drewN (((below_drewN (Below.refl _ _) _).setCell hg _).setCell hg _) _, (((((KeepB.refl _ _).drewN _).set _ _).set _ _).drewN _)⟩
theorem nextk_any (B : Nat) (w : World) (g n : Nat) (v : Value) (k : Nat) (s : Int) (hs : Src w g v k s) (hv : Bs B w v n) (hg : B ≤ g) (hk : k ≤ 2000000) (hl : n ≤ 1048576) :
    Calls Tryd.prog 70 #[.pointer (some ⟨g, 0, none⟩)] w fun e w' => ∃ x s' : Int, e = .returned (.int .i64 x) ∧ 0 ≤ x ∧ x ≤ 255 ∧ Src w' g v ((k + 1 : Nat) : Int) s' ∧ Below B w w' ∧ KeepB g w w' := by
  obtain ⟨a, cap, rfl⟩ := hv.form
  by_cases h : k < n
  · exact nextk_in B w g n cap a k s hs hv hg h hl
  · exact nextk_out B w g n cap a k s hs hg (by omega) hk
set_option maxHeartbeats 1600000 in
theorem pick_small (B : Nat) (w : World) (g n : Nat) (v : Value) (k : Nat) (s m : Int) (hs : Src w g v k s) (hv : Bs B w v n) (hg : B ≤ g) (hk : k ≤ 1000000) (hl : n ≤ 1048576) (hm : 1 < m) (hm2 : m ≤ 200) :
    Calls Tryd.prog 49 #[.pointer (some ⟨g, 0, none⟩), .int .i64 m] w fun e w' => ∃ x s' : Int, e = .returned (.int .i64 x) ∧ 0 ≤ x ∧ x ≤ m - 1 ∧ Src w' g v ((k + 1 : Nat) : Int) s' ∧ Below B w w' ∧ KeepB g w w' := by
  have C := Lib.hid (nextk_any B w g n v k s hs hv hg (by omega) hl)
  clear hs hv
  go_enter Tryd.func49, Tryd.ntmps49
  go_wp2_with fail
  refine C.out.mono ?_
  rintro e w1 ⟨x, s1, rfl, x0, x1, S1, b1, k1⟩
  have HS1 := Lib.hid S1
  have HB1 := Lib.hid b1
  have HK1 := Lib.hid k1
  clear S1 b1 k1
  have t0 := Int.emod_nonneg x (b := m) (by omega)
  have t1 := Int.emod_lt_of_pos x (b := m) (by omega)
  go_wp2_with fail
  go_ret
  exact ⟨_, _, rfl, t0, by omega, HS1.out, HB1.out, HK1.out⟩
set_option maxHeartbeats 1600000 in
theorem one_any (B : Nat) (w : World) (g n : Nat) (v : Value) (k : Nat) (s m : Int) (hs : Src w g v k s) (hv : Bs B w v n) (hg : B ≤ g) (hk : k ≤ 1000000) (hl : n ≤ 1048576) (hm : 1 < m) (hm2 : m ≤ 200) :
    Calls Tryd.prog 63 #[.pointer (some ⟨g, 0, none⟩), .int .i64 m] w fun e w' => ∃ (b : Bool) (s' : Int), e = .returned (.bool b) ∧ Src w' g v ((k + 1 : Nat) : Int) s' ∧ Below B w w' ∧ KeepB g w w' := by
  have C := Lib.hid (pick_small B w g n v k s m hs hv hg hk hl hm hm2)
  clear hs hv
  go_enter Tryd.func63, Tryd.ntmps63
  go_wp2_with fail
  refine C.out.mono ?_
  rintro e w1 ⟨x, s1, rfl, x0, x1, S1, b1, k1⟩
  have HS1 := Lib.hid S1
  have HB1 := Lib.hid b1
  have HK1 := Lib.hid k1
  clear S1 b1 k1
  go_wp2_with fail
  go_ret
  exact ⟨_, _, rfl, HS1.out, HB1.out, HK1.out⟩
set_option maxHeartbeats 1600000 in
theorem among_any (B : Nat) (w : World) (g n : Nat) (v : Value) (k : Nat) (s : Int) (q cq : Nat) (zs : List Int) (hs : Src w g v k s) (hv : Bs B w v n) (hg : B ≤ g) (hk : k ≤ 1000000) (hl : n ≤ 1048576) (h1 : 1 < zs.length) (h2 : zs.length ≤ 200)
    (hq : q < w.heap.size) (hqg : q ≠ g) (hc : ∀ j z, zs[j]? = some z → w.cell? ⟨q, j, none⟩ = some (.int .i64 z)) :
    Calls Tryd.prog 64 #[.pointer (some ⟨g, 0, none⟩), .slice (some ⟨q, 0, none⟩) zs.length cq] w fun e w' => ∃ (x s' : Int), e = .returned (.int .i64 x) ∧ x ∈ zs ∧ Src w' g v ((k + 1 : Nat) : Int) s' ∧ Below B w w' ∧ KeepB g w w' := by
  have C := Lib.hid (pick_small B w g n v k s zs.length hs hv hg hk hl (by omega) (by omega))
  have HC := Lib.hid hc
  clear hs hv hc
  go_enter Tryd.func64, Tryd.ntmps64
  go_wp2_with fail
  refine C.out.mono ?_
  rintro e w1 ⟨x, s1, rfl, x0, x1, S1, b1, k1⟩
  obtain ⟨j, rfl⟩ := Int.eq_ofNat_of_zero_le x0
  have hj : j < zs.length := by omega
  have c1 : w1.cell? ⟨q, j, none⟩ = some (.int .i64 zs[j]) := (k1.cell (p := ⟨q, j, none⟩) hq hqg).trans (HC.out j _ (List.getElem?_eq_getElem hj))
  have HM := Lib.hid (List.getElem_mem hj)
  have HS1 := Lib.hid S1
  have HB1 := Lib.hid b1
  have HK1 := Lib.hid k1
  clear S1 b1 k1
  generalize zs[j] = z at *
  go_wp2_with fail
  go_ret
  exact ⟨_, _, rfl, HM.out, HS1.out, HB1.out, HK1.out⟩
theorem new_cells (w : World) (t : TypeId) (zs : List Int) : ∀ j z, zs[j]? = some z → (w.alloc (.cells (iv zs).toArray t)).cell? ⟨w.heap.size, j, none⟩ = some (.int .i64 z) := by
  intro j z hz
  have e := iv_at hz
  simp [e]
theorem alloc_size8 (w : World) (o : Obj) : (w.alloc o).heap.size = w.heap.size + 1 := by simp
theorem src_alloc {w : World} {g : Nat} {v : Value} {k s : Int} (h : Src w g v k s) (o : Obj) : Src (w.alloc o) g v k s := by
  have hl := h.lt
  unfold Src at *
  rw [← h]
  unfold World.alloc; simp [Array.getElem?_push, Nat.ne_of_lt hl]
set_option maxRecDepth 100000 in
set_option maxHeartbeats 3200000 in
theorem drawDay_any (B : Nat) (w : World) (g n : Nat) (v : Value) (k : Nat) (s : Int) (hs : Src w g v k s) (hv : Bs B w v n) (hg : B ≤ g) (hk : k ≤ 900000) (hl : n ≤ 1048576) :
    Calls Tryd.prog 40 #[.pointer (some ⟨g, 0, none⟩)] w fun e w' => ∃ (x s' : Int) (k' : Nat), e = .returned (.int .i64 x) ∧ -1 ≤ x ∧ x ≤ 36525 ∧ k' ≤ k + 5 ∧ Src w' g v k' s' ∧ Below B w w' := by
  have C := Lib.hid (one_any B w g n v k s 8 hs hv hg (by omega) hl (by omega) (by omega))
  have HV := Lib.hid hv
  have HA := Lib.hid (fun (W : World) (k : Nat) (s : Int) (q cq : Nat) (zs : List Int) h1 h2 h3 => among_any B W g n v k s q cq zs h1 h2 hg h3 hl)
  have HP := Lib.hid (fun (W : World) (k : Nat) (s m : Int) h1 h2 h3 h4 h5 => pick_big B W g n v k s m h1 h2 hg h3 hl h4 h5)
  have HQ := Lib.hid (fun (W : World) (k : Nat) (s m : Int) h1 h2 h3 h4 h5 => pick_small B W g n v k s m h1 h2 hg h3 hl h4 h5)
  have hgw := hs.lt
  clear hs hv
  go_enter Tryd.func40, Tryd.ntmps40
  go_wp2_with fail
  refine C.out.mono ?_
  rintro e w1 ⟨b, s1, rfl, S1, b1, k1⟩
  have HS1 := Lib.hid S1
  have HB1 := Lib.hid b1
  have hg1 := S1.lt
  clear S1 b1 k1
  rcases b with _ | _
  · go_wp2_with fail
    refine (HP.out w1 (k + 1) s1 256 HS1.out (HV.out.below HB1.out) (by omega) (by omega) (by omega)).mono ?_
    rintro e w2 ⟨x, s2, rfl, x0, x1, S2, b2⟩
    have HS2 := Lib.hid S2
    have HB2 := Lib.hid (HB1.out.trans b2)
    clear S2 b2
    go_wp2_with fail
    refine (HQ.out w2 (k + 1 + 2) s2 200 HS2.out (HV.out.below HB2.out) (by omega) (by omega) (by omega)).mono ?_
    rintro e w3 ⟨y, s3, rfl, y0, y1, S3, b3, k3⟩
    have HS3 := Lib.hid S3
    have HB3 := Lib.hid (HB2.out.trans b3)
    clear S3 b3 k3
    go_wp2_with fail
    go_ret
    exact ⟨_, s3, _, rfl, by omega, by omega, by omega, HS3.out, HB3.out⟩
  · have hb8 : Below B w1 (w1.alloc (.cells (iv [-1, 0, 59, 60, 36524, 36525, 366, 365]).toArray 2)) := (Below.refl _ _).alloc (by omega) _
    have hsA := src_alloc HS1.out (.cells (iv [-1, 0, 59, 60, 36524, 36525, 366, 365]).toArray 2)
    have hcA := new_cells w1 2 [-1, 0, 59, 60, 36524, 36525, 366, 365]
    have A : Hid (Calls Tryd.prog 64 #[.pointer (some ⟨g, 0, none⟩), .slice (some ⟨w1.heap.size, 0, none⟩) 8 8] (w1.alloc (.cells #[.int .i64 (-1), .int .i64 0, .int .i64 59, .int .i64 60, .int .i64 36524, .int .i64 36525, .int .i64 366, .int .i64 365] 2)) fun e w' => ∃ (x s' : Int), e = .returned (.int .i64 x) ∧ x ∈ [-1, 0, 59, 60, 36524, 36525, 366, 365] ∧ Src w' g v ((k + 1 + 1 : Nat) : Int) s' ∧ Below B (w1.alloc (.cells #[.int .i64 (-1), .int .i64 0, .int .i64 59, .int .i64 60, .int .i64 36524, .int .i64 36525, .int .i64 366, .int .i64 365] 2)) w' ∧ KeepB g (w1.alloc (.cells #[.int .i64 (-1), .int .i64 0, .int .i64 59, .int .i64 60, .int .i64 36524, .int .i64 36525, .int .i64 366, .int .i64 365] 2)) w') :=
      Lib.hid (HA.out (w1.alloc (.cells (iv [-1, 0, 59, 60, 36524, 36525, 366, 365]).toArray 2)) (k + 1) s1 w1.heap.size 8 [-1, 0, 59, 60, 36524, 36525, 366, 365] hsA (HV.out.below (HB1.out.trans hb8)) (by omega) (by decide) (by decide) (by rw [alloc_size8]; omega) (by omega) hcA)
    have HB8 : Hid (Below B w1 (w1.alloc (.cells #[.int .i64 (-1), .int .i64 0, .int .i64 59, .int .i64 60, .int .i64 36524, .int .i64 36525, .int .i64 366, .int .i64 365] 2))) := Lib.hid hb8
    clear hsA hcA hb8
    go_wp2_with fail
    refine A.out.mono ?_
    rintro e w2 ⟨x, s2, rfl, hx, S2, b2, k2⟩
    have HS2 := Lib.hid S2
    have HB2 := Lib.hid ((HB1.out.trans HB8.out).trans b2)
    have hx2 : -1 ≤ x ∧ x ≤ 36525 := by
      simp only [List.mem_cons, List.not_mem_nil, or_false] at hx
      omega
    clear S2 b2 k2 hx
    go_wp2_with fail
    go_ret
    exact ⟨_, s2, _, rfl, hx2.1, hx2.2, by omega, HS2.out, HB2.out⟩
set_option maxHeartbeats 1600000 in
theorem drawDateOf_any (w : World) (v : Value) (n : Nat) (hv : Bs w.heap.size w v n) (hl : n ≤ 1048576) :
    Calls Tryd.prog 19 #[v] w fun e w' => ∃ x : Int, e = .returned (.int .i64 x) ∧ -1 ≤ x ∧ x ≤ 36525 ∧ Below w.heap.size w w' := by
  obtain ⟨a, cap, rfl⟩ := hv.form
  have HV := Lib.hid hv
  clear hv
  have F := Lib.hid (l00From_any a n cap w)
  have C := Lib.hid (fun (W : World) (k : Nat) (s : Int) (h1 : Src W w.heap.size (.slice a n cap) k s) (h2 : Bs w.heap.size W (.slice a n cap) n) (h3 : k ≤ 900000) => drawDay_any w.heap.size W w.heap.size n (.slice a n cap) k s h1 h2 (Nat.le_refl _) h3 hl)
  go_enter Tryd.func19, Tryd.ntmps19
  go_wp2_with fail
  refine F.out.mono ?_
  rintro e w1 ⟨rfl, S1, b1⟩
  have HS1 := Lib.hid S1
  have HB1 := Lib.hid b1
  clear S1 b1 F
  go_wp2_with fail
  refine (C.out w1 0 0 HS1.out (HV.out.below HB1.out) (by omega)).mono ?_
  rintro e w2 ⟨x, s2, k2, rfl, x0, x1, -, -, b2⟩
  have HB2 := Lib.hid (HB1.out.trans b2)
  clear b2
  go_wp2_with fail
  go_ret
  exact ⟨_, rfl, x0, x1, HB2.out⟩
set_option maxHeartbeats 1600000 in
theorem drawHour_any (w : World) (v : Value) (n : Nat) (hv : Bs w.heap.size w v n) (hl : n ≤ 1048576) :
    Calls Tryd.prog 25 #[v] w fun e w' => ∃ x y : Int, e = .returned (.tuple #[.int .i64 x, .int .i64 y]) ∧ -1 ≤ x ∧ x ≤ 36525 ∧ -1 ≤ y ∧ y ≤ 24 ∧ Below w.heap.size w w' := by
  obtain ⟨a, cap, rfl⟩ := hv.form
  have HV := Lib.hid hv
  clear hv
  have F := Lib.hid (l00From_any a n cap w)
  have C := Lib.hid (fun (W : World) (k : Nat) (s : Int) (h1 : Src W w.heap.size (.slice a n cap) k s) (h2 : Bs w.heap.size W (.slice a n cap) n) (h3 : k ≤ 900000) => drawDay_any w.heap.size W w.heap.size n (.slice a n cap) k s h1 h2 (Nat.le_refl _) h3 hl)
  have Q := Lib.hid (fun (W : World) (k : Nat) (s m : Int) (h1 : Src W w.heap.size (.slice a n cap) k s) (h2 : Bs w.heap.size W (.slice a n cap) n) (h3 : k ≤ 1000000) (h4 : 1 < m) (h5 : m ≤ 200) => pick_small w.heap.size W w.heap.size n (.slice a n cap) k s m h1 h2 (Nat.le_refl _) h3 hl h4 h5)
  go_enter Tryd.func25, Tryd.ntmps25
  go_wp2_with fail
  refine F.out.mono ?_
  rintro e w1 ⟨rfl, S1, b1⟩
  have HS1 := Lib.hid S1
  have HB1 := Lib.hid b1
  clear S1 b1 F
  go_wp2_with fail
  refine (C.out w1 0 0 HS1.out (HV.out.below HB1.out) (by omega)).mono ?_
  rintro e w2 ⟨x, s2, k2, rfl, x0, x1, hk2, S2, b2⟩
  have HS2 := Lib.hid S2
  have HB2 := Lib.hid (HB1.out.trans b2)
  clear S2 b2
  go_wp2_with fail
  refine (Q.out w2 k2 s2 26 HS2.out (HV.out.below HB2.out) (by omega) (by omega) (by omega)).mono ?_
  rintro e w3 ⟨y, s3, rfl, y0, y1, S3, b3, k3⟩
  have HB3 := Lib.hid (HB2.out.trans b3)
  clear S3 b3 k3
  go_wp2_with fail
  go_ret2
  exact ⟨_, _, rfl, x0, x1, by omega, by omega, HB3.out⟩
end Go.Proofs.YtnflndngkihaaabDoor

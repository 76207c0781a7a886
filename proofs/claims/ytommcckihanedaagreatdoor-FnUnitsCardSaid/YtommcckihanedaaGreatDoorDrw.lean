/-
  Draws of chapter 2: minutes, numbers with places, heights and densities of snow, speeds of wind. No condition of its own.
-/
import Derived.Test.YtommcckihanedaaGreatDoorDraw
namespace Go.Proofs.YtommcckihanedaaGreatDoor
open Go.RowKit
set_option linter.unusedVariables false
set_option maxRecDepth 100000

set_option maxHeartbeats 3200000 in
theorem drawNumber_any (B : Nat) (w : World) (g n : Nat) (v : Value) (k : Nat) (s : Int) (hs : Src w g v k s) (hv : Bs B w v n) (hg : B ≤ g) (hk : k ≤ 900000) (hl : n ≤ 1048576) (hBw : B ≤ w.heap.size) :
    Calls Tryz.prog 24 #[.pointer (some ⟨g, 0, none⟩)] w fun e w' => ∃ (x s' : Int) (k' : Nat), e = .returned (.int .i64 x) ∧ -1000000001 ≤ x ∧ x ≤ 1000000001 ∧ k' ≤ k + 5 ∧ Src w' g v k' s' ∧ Below B w w' := by
  have HV := Lib.hid hv
  have HO := Lib.hid (fun (W : World) (k : Nat) (s m : Int) h1 h2 h3 h4 h5 => one_any B W g n v k s m h1 h2 hg h3 hl h4 h5)
  have HA := Lib.hid (fun (W : World) (k : Nat) (s : Int) (q cq : Nat) (zs : List Int) h1 h2 h3 => among_any B W g n v k s q cq zs h1 h2 hg h3 hl)
  have HP := Lib.hid (fun (W : World) (k : Nat) (s m : Int) h1 h2 h3 h4 h5 => pick_big B W g n v k s m h1 h2 hg h3 hl h4 h5)
  have HQ := Lib.hid (fun (W : World) (k : Nat) (s m : Int) h1 h2 h3 h4 h5 => pick_small B W g n v k s m h1 h2 hg h3 hl h4 h5)
  have HS0 := Lib.hid hs
  have HB0 : Hid (Below B w w) := Lib.hid (Below.refl _ _)
  have hgw := hs.lt
  clear hs hv
  go_enter Tryz.func24, Tryz.ntmps24
  go_wp2_with fail
  refine (HO.out _ (k) _ 8 HS0.out (HV.out.below HB0.out) (by omega) (by omega) (by omega)).mono ?_
  rintro e w1 ⟨b, s1, rfl, S1, b1, -⟩
  have HS1 := Lib.hid S1
  have hg1 := S1.lt
  have HB1 := Lib.hid (HB0.out.trans b1)
  clear S1 b1
  rcases b with _ | _
  · go_wp2_with fail
    refine (HP.out _ (k + 1) _ 4000 HS1.out (HV.out.below HB1.out) (by omega) (by omega) (by omega)).mono ?_
    rintro e w2 ⟨x, s2, rfl, x0, x1, S2, b2⟩
    have HS2 := Lib.hid S2
    have hg2 := S2.lt
    have HB2 := Lib.hid (HB1.out.trans b2)
    clear S2 b2
    go_wp2_with fail
    go_ret
    exact ⟨_, s2, _, rfl, by omega, by omega, by omega, HS2.out, HB2.out⟩
  · have hb8 : Below B w1 (w1.alloc (.cells (iv [0, 1000000000, 1000000001, -1000000000, -1000000001, 7, -7]).toArray 2)) := (Below.refl _ _).alloc (by have := HB1.out.size; omega) _
    have hsA := src_alloc HS1.out (.cells (iv [0, 1000000000, 1000000001, -1000000000, -1000000001, 7, -7]).toArray 2)
    have hcA := new_cells w1 2 [0, 1000000000, 1000000001, -1000000000, -1000000001, 7, -7]
    have A2 : Hid (Calls Tryz.prog 19 #[.pointer (some ⟨g, 0, none⟩), .slice (some ⟨w1.heap.size, 0, none⟩) 7 7] (w1.alloc (.cells #[.int .i64 0, .int .i64 1000000000, .int .i64 1000000001, .int .i64 (-1000000000), .int .i64 (-1000000001), .int .i64 7, .int .i64 (-7)] 2)) fun e w' => ∃ (x s' : Int), e = .returned (.int .i64 x) ∧ x ∈ ([0, 1000000000, 1000000001, -1000000000, -1000000001, 7, -7] : List Int) ∧ Src w' g v ((k + 1 + 1 : Nat) : Int) s' ∧ Below B (w1.alloc (.cells #[.int .i64 0, .int .i64 1000000000, .int .i64 1000000001, .int .i64 (-1000000000), .int .i64 (-1000000001), .int .i64 7, .int .i64 (-7)] 2)) w' ∧ KeepB g (w1.alloc (.cells #[.int .i64 0, .int .i64 1000000000, .int .i64 1000000001, .int .i64 (-1000000000), .int .i64 (-1000000001), .int .i64 7, .int .i64 (-7)] 2)) w') :=
      Lib.hid (HA.out (w1.alloc (.cells (iv [0, 1000000000, 1000000001, -1000000000, -1000000001, 7, -7]).toArray 2)) (k + 1) _ w1.heap.size 7 [0, 1000000000, 1000000001, -1000000000, -1000000001, 7, -7] hsA (HV.out.below (HB1.out.trans hb8)) (by omega) (by decide) (by decide) (by rw [alloc_size8]; omega) (by omega) hcA)
    have HB8 : Hid (Below B w1 (w1.alloc (.cells #[.int .i64 0, .int .i64 1000000000, .int .i64 1000000001, .int .i64 (-1000000000), .int .i64 (-1000000001), .int .i64 7, .int .i64 (-7)] 2))) := Lib.hid hb8
    clear hsA hcA hb8
    go_wp2_with fail
    refine A2.out.mono ?_
    rintro e w2 ⟨x, s2, rfl, hx, S2, b2, -⟩
    have hxx : -1000000001 ≤ x ∧ x ≤ 1000000001 := by simp only [List.mem_cons, List.not_mem_nil, or_false] at hx; omega
    clear hx A2
    have HS2 := Lib.hid S2
    have hg2 := S2.lt
    have HB2 := Lib.hid ((HB1.out.trans HB8.out).trans b2)
    clear S2 b2
    clear HB8
    go_wp2_with fail
    go_ret
    exact ⟨_, s2, _, rfl, hxx.1, hxx.2, by omega, HS2.out, HB2.out⟩
set_option maxHeartbeats 3200000 in
theorem drawDensity_any (B : Nat) (w : World) (g n : Nat) (v : Value) (k : Nat) (s : Int) (hs : Src w g v k s) (hv : Bs B w v n) (hg : B ≤ g) (hk : k ≤ 900000) (hl : n ≤ 1048576) (hBw : B ≤ w.heap.size) :
    Calls Tryz.prog 31 #[.pointer (some ⟨g, 0, none⟩)] w fun e w' => ∃ (x s' : Int) (k' : Nat), e = .returned (.int .i64 x) ∧ 0 ≤ x ∧ x ≤ 1001 ∧ k' ≤ k + 5 ∧ Src w' g v k' s' ∧ Below B w w' := by
  have HV := Lib.hid hv
  have HO := Lib.hid (fun (W : World) (k : Nat) (s m : Int) h1 h2 h3 h4 h5 => one_any B W g n v k s m h1 h2 hg h3 hl h4 h5)
  have HA := Lib.hid (fun (W : World) (k : Nat) (s : Int) (q cq : Nat) (zs : List Int) h1 h2 h3 => among_any B W g n v k s q cq zs h1 h2 hg h3 hl)
  have HP := Lib.hid (fun (W : World) (k : Nat) (s m : Int) h1 h2 h3 h4 h5 => pick_big B W g n v k s m h1 h2 hg h3 hl h4 h5)
  have HQ := Lib.hid (fun (W : World) (k : Nat) (s m : Int) h1 h2 h3 h4 h5 => pick_small B W g n v k s m h1 h2 hg h3 hl h4 h5)
  have HS0 := Lib.hid hs
  have HB0 : Hid (Below B w w) := Lib.hid (Below.refl _ _)
  have hgw := hs.lt
  clear hs hv
  go_enter Tryz.func31, Tryz.ntmps31
  go_wp2_with fail
  refine (HO.out _ (k) _ 9 HS0.out (HV.out.below HB0.out) (by omega) (by omega) (by omega)).mono ?_
  rintro e w1 ⟨b, s1, rfl, S1, b1, -⟩
  have HS1 := Lib.hid S1
  have hg1 := S1.lt
  have HB1 := Lib.hid (HB0.out.trans b1)
  clear S1 b1
  rcases b with _ | _
  · go_wp2_with fail
    refine (HP.out _ (k + 1) _ 256 HS1.out (HV.out.below HB1.out) (by omega) (by omega) (by omega)).mono ?_
    rintro e w2 ⟨x, s2, rfl, x0, x1, S2, b2⟩
    have HS2 := Lib.hid S2
    have hg2 := S2.lt
    have HB2 := Lib.hid (HB1.out.trans b2)
    clear S2 b2
    go_wp2_with fail
    go_ret
    exact ⟨_, s2, _, rfl, by omega, by omega, by omega, HS2.out, HB2.out⟩
  · have hb8 : Below B w1 (w1.alloc (.cells (iv [0, 1, 1000, 1001]).toArray 2)) := (Below.refl _ _).alloc (by have := HB1.out.size; omega) _
    have hsA := src_alloc HS1.out (.cells (iv [0, 1, 1000, 1001]).toArray 2)
    have hcA := new_cells w1 2 [0, 1, 1000, 1001]
    have A2 : Hid (Calls Tryz.prog 19 #[.pointer (some ⟨g, 0, none⟩), .slice (some ⟨w1.heap.size, 0, none⟩) 4 4] (w1.alloc (.cells #[.int .i64 0, .int .i64 1, .int .i64 1000, .int .i64 1001] 2)) fun e w' => ∃ (x s' : Int), e = .returned (.int .i64 x) ∧ x ∈ ([0, 1, 1000, 1001] : List Int) ∧ Src w' g v ((k + 1 + 1 : Nat) : Int) s' ∧ Below B (w1.alloc (.cells #[.int .i64 0, .int .i64 1, .int .i64 1000, .int .i64 1001] 2)) w' ∧ KeepB g (w1.alloc (.cells #[.int .i64 0, .int .i64 1, .int .i64 1000, .int .i64 1001] 2)) w') :=
      Lib.hid (HA.out (w1.alloc (.cells (iv [0, 1, 1000, 1001]).toArray 2)) (k + 1) _ w1.heap.size 4 [0, 1, 1000, 1001] hsA (HV.out.below (HB1.out.trans hb8)) (by omega) (by decide) (by decide) (by rw [alloc_size8]; omega) (by omega) hcA)
    have HB8 : Hid (Below B w1 (w1.alloc (.cells #[.int .i64 0, .int .i64 1, .int .i64 1000, .int .i64 1001] 2))) := Lib.hid hb8
    clear hsA hcA hb8
    go_wp2_with fail
    refine A2.out.mono ?_
    rintro e w2 ⟨x, s2, rfl, hx, S2, b2, -⟩
    have hxx : 0 ≤ x ∧ x ≤ 1001 := by simp only [List.mem_cons, List.not_mem_nil, or_false] at hx; omega
    clear hx A2
    have HS2 := Lib.hid S2
    have hg2 := S2.lt
    have HB2 := Lib.hid ((HB1.out.trans HB8.out).trans b2)
    clear S2 b2
    clear HB8
    go_wp2_with fail
    go_ret
    exact ⟨_, s2, _, rfl, hxx.1, hxx.2, by omega, HS2.out, HB2.out⟩
set_option maxHeartbeats 3200000 in
theorem drawSpeed_any (B : Nat) (w : World) (g n : Nat) (v : Value) (k : Nat) (s : Int) (hs : Src w g v k s) (hv : Bs B w v n) (hg : B ≤ g) (hk : k ≤ 900000) (hl : n ≤ 1048576) (hBw : B ≤ w.heap.size) :
    Calls Tryz.prog 34 #[.pointer (some ⟨g, 0, none⟩)] w fun e w' => ∃ (x s' : Int) (k' : Nat), e = .returned (.int .i64 x) ∧ -1 ≤ x ∧ x ≤ 100001 ∧ k' ≤ k + 5 ∧ Src w' g v k' s' ∧ Below B w w' := by
  have HV := Lib.hid hv
  have HO := Lib.hid (fun (W : World) (k : Nat) (s m : Int) h1 h2 h3 h4 h5 => one_any B W g n v k s m h1 h2 hg h3 hl h4 h5)
  have HA := Lib.hid (fun (W : World) (k : Nat) (s : Int) (q cq : Nat) (zs : List Int) h1 h2 h3 => among_any B W g n v k s q cq zs h1 h2 hg h3 hl)
  have HP := Lib.hid (fun (W : World) (k : Nat) (s m : Int) h1 h2 h3 h4 h5 => pick_big B W g n v k s m h1 h2 hg h3 hl h4 h5)
  have HQ := Lib.hid (fun (W : World) (k : Nat) (s m : Int) h1 h2 h3 h4 h5 => pick_small B W g n v k s m h1 h2 hg h3 hl h4 h5)
  have HS0 := Lib.hid hs
  have HB0 : Hid (Below B w w) := Lib.hid (Below.refl _ _)
  have hgw := hs.lt
  clear hs hv
  go_enter Tryz.func34, Tryz.ntmps34
  go_wp2_with fail
  refine (HO.out _ (k) _ 9 HS0.out (HV.out.below HB0.out) (by omega) (by omega) (by omega)).mono ?_
  rintro e w1 ⟨b, s1, rfl, S1, b1, -⟩
  have HS1 := Lib.hid S1
  have hg1 := S1.lt
  have HB1 := Lib.hid (HB0.out.trans b1)
  clear S1 b1
  rcases b with _ | _
  · go_wp2_with fail
    refine (HP.out _ (k + 1) _ 350 HS1.out (HV.out.below HB1.out) (by omega) (by omega) (by omega)).mono ?_
    rintro e w2 ⟨x, s2, rfl, x0, x1, S2, b2⟩
    have HS2 := Lib.hid S2
    have hg2 := S2.lt
    have HB2 := Lib.hid (HB1.out.trans b2)
    clear S2 b2
    go_wp2_with fail
    go_ret
    exact ⟨_, s2, _, rfl, by omega, by omega, by omega, HS2.out, HB2.out⟩
  · have hb8 : Below B w1 (w1.alloc (.cells (iv [-1, 0, 29, 30, 3270, 100000, 100001]).toArray 2)) := (Below.refl _ _).alloc (by have := HB1.out.size; omega) _
    have hsA := src_alloc HS1.out (.cells (iv [-1, 0, 29, 30, 3270, 100000, 100001]).toArray 2)
    have hcA := new_cells w1 2 [-1, 0, 29, 30, 3270, 100000, 100001]
    have A2 : Hid (Calls Tryz.prog 19 #[.pointer (some ⟨g, 0, none⟩), .slice (some ⟨w1.heap.size, 0, none⟩) 7 7] (w1.alloc (.cells #[.int .i64 (-1), .int .i64 0, .int .i64 29, .int .i64 30, .int .i64 3270, .int .i64 100000, .int .i64 100001] 2)) fun e w' => ∃ (x s' : Int), e = .returned (.int .i64 x) ∧ x ∈ ([-1, 0, 29, 30, 3270, 100000, 100001] : List Int) ∧ Src w' g v ((k + 1 + 1 : Nat) : Int) s' ∧ Below B (w1.alloc (.cells #[.int .i64 (-1), .int .i64 0, .int .i64 29, .int .i64 30, .int .i64 3270, .int .i64 100000, .int .i64 100001] 2)) w' ∧ KeepB g (w1.alloc (.cells #[.int .i64 (-1), .int .i64 0, .int .i64 29, .int .i64 30, .int .i64 3270, .int .i64 100000, .int .i64 100001] 2)) w') :=
      Lib.hid (HA.out (w1.alloc (.cells (iv [-1, 0, 29, 30, 3270, 100000, 100001]).toArray 2)) (k + 1) _ w1.heap.size 7 [-1, 0, 29, 30, 3270, 100000, 100001] hsA (HV.out.below (HB1.out.trans hb8)) (by omega) (by decide) (by decide) (by rw [alloc_size8]; omega) (by omega) hcA)
    have HB8 : Hid (Below B w1 (w1.alloc (.cells #[.int .i64 (-1), .int .i64 0, .int .i64 29, .int .i64 30, .int .i64 3270, .int .i64 100000, .int .i64 100001] 2))) := Lib.hid hb8
    clear hsA hcA hb8
    go_wp2_with fail
    refine A2.out.mono ?_
    rintro e w2 ⟨x, s2, rfl, hx, S2, b2, -⟩
    have hxx : -1 ≤ x ∧ x ≤ 100001 := by simp only [List.mem_cons, List.not_mem_nil, or_false] at hx; omega
    clear hx A2
    have HS2 := Lib.hid S2
    have hg2 := S2.lt
    have HB2 := Lib.hid ((HB1.out.trans HB8.out).trans b2)
    clear S2 b2
    clear HB8
    go_wp2_with fail
    go_ret
    exact ⟨_, s2, _, rfl, hxx.1, hxx.2, by omega, HS2.out, HB2.out⟩
set_option maxHeartbeats 3200000 in
theorem drawPlaces_any (B : Nat) (w : World) (g n : Nat) (v : Value) (k : Nat) (s : Int) (hs : Src w g v k s) (hv : Bs B w v n) (hg : B ≤ g) (hk : k ≤ 900000) (hl : n ≤ 1048576) (hBw : B ≤ w.heap.size) :
    Calls Tryz.prog 25 #[.pointer (some ⟨g, 0, none⟩)] w fun e w' => ∃ (x s' : Int) (k' : Nat), e = .returned (.int .i64 x) ∧ 0 ≤ x ∧ x ≤ 7 ∧ k' ≤ k + 5 ∧ Src w' g v k' s' ∧ Below B w w' := by
  have HV := Lib.hid hv
  have HO := Lib.hid (fun (W : World) (k : Nat) (s m : Int) h1 h2 h3 h4 h5 => one_any B W g n v k s m h1 h2 hg h3 hl h4 h5)
  have HA := Lib.hid (fun (W : World) (k : Nat) (s : Int) (q cq : Nat) (zs : List Int) h1 h2 h3 => among_any B W g n v k s q cq zs h1 h2 hg h3 hl)
  have HP := Lib.hid (fun (W : World) (k : Nat) (s m : Int) h1 h2 h3 h4 h5 => pick_big B W g n v k s m h1 h2 hg h3 hl h4 h5)
  have HQ := Lib.hid (fun (W : World) (k : Nat) (s m : Int) h1 h2 h3 h4 h5 => pick_small B W g n v k s m h1 h2 hg h3 hl h4 h5)
  have HS0 := Lib.hid hs
  have HB0 : Hid (Below B w w) := Lib.hid (Below.refl _ _)
  have hgw := hs.lt
  clear hs hv
  go_enter Tryz.func25, Tryz.ntmps25
  have hb8 : Below B w (w.alloc (.cells (iv [1, 2, 3, 6, 0, 7, 2, 3]).toArray 2)) := (Below.refl _ _).alloc (by have := HB0.out.size; omega) _
  have hsA := src_alloc HS0.out (.cells (iv [1, 2, 3, 6, 0, 7, 2, 3]).toArray 2)
  have hcA := new_cells w 2 [1, 2, 3, 6, 0, 7, 2, 3]
  have A1 : Hid (Calls Tryz.prog 19 #[.pointer (some ⟨g, 0, none⟩), .slice (some ⟨w.heap.size, 0, none⟩) 8 8] (w.alloc (.cells #[.int .i64 1, .int .i64 2, .int .i64 3, .int .i64 6, .int .i64 0, .int .i64 7, .int .i64 2, .int .i64 3] 2)) fun e w' => ∃ (x s' : Int), e = .returned (.int .i64 x) ∧ x ∈ ([1, 2, 3, 6, 0, 7, 2, 3] : List Int) ∧ Src w' g v ((k + 1 : Nat) : Int) s' ∧ Below B (w.alloc (.cells #[.int .i64 1, .int .i64 2, .int .i64 3, .int .i64 6, .int .i64 0, .int .i64 7, .int .i64 2, .int .i64 3] 2)) w' ∧ KeepB g (w.alloc (.cells #[.int .i64 1, .int .i64 2, .int .i64 3, .int .i64 6, .int .i64 0, .int .i64 7, .int .i64 2, .int .i64 3] 2)) w') :=
    Lib.hid (HA.out (w.alloc (.cells (iv [1, 2, 3, 6, 0, 7, 2, 3]).toArray 2)) (k) _ w.heap.size 8 [1, 2, 3, 6, 0, 7, 2, 3] hsA (HV.out.below (HB0.out.trans hb8)) (by omega) (by decide) (by decide) (by rw [alloc_size8]; omega) (by omega) hcA)
  have HB8 : Hid (Below B w (w.alloc (.cells #[.int .i64 1, .int .i64 2, .int .i64 3, .int .i64 6, .int .i64 0, .int .i64 7, .int .i64 2, .int .i64 3] 2))) := Lib.hid hb8
  clear hsA hcA hb8
  go_wp2_with fail
  refine A1.out.mono ?_
  rintro e w1 ⟨x, s1, rfl, hx, S1, b1, -⟩
  have hxx : 0 ≤ x ∧ x ≤ 7 := by simp only [List.mem_cons, List.not_mem_nil, or_false] at hx; omega
  clear hx A1
  have HS1 := Lib.hid S1
  have hg1 := S1.lt
  have HB1 := Lib.hid ((HB0.out.trans HB8.out).trans b1)
  clear S1 b1
  clear HB8
  go_wp2_with fail
  go_ret
  exact ⟨_, s1, _, rfl, hxx.1, hxx.2, by omega, HS1.out, HB1.out⟩
set_option maxHeartbeats 3200000 in
theorem drawClockText_any (w : World) (v : Value) (n : Nat) (hv : Bs w.heap.size w v n) (hl : n ≤ 1048576) :
    Calls Tryz.prog 5 #[v] w fun e w' => ∃ x : Int, e = .returned (.int .i64 x) ∧ -1 ≤ x ∧ x ≤ 1440 ∧ Below w.heap.size w w' := by
  obtain ⟨a, cap, rfl⟩ := hv.form
  obtain ⟨g, hgg⟩ : ∃ g, g = w.heap.size := ⟨_, rfl⟩
  obtain ⟨v, hvv⟩ : ∃ v : Value, v = .slice a n cap := ⟨_, rfl⟩
  have hv' : Bs w.heap.size w v n := by rw [hvv]; exact hv
  clear hv
  have hv := hv'
  clear hv'
  have HV := Lib.hid hv
  have HO := Lib.hid (fun (W : World) (k : Nat) (s m : Int) h1 h2 h3 h4 h5 => one_any w.heap.size W g n v k s m h1 h2 (Nat.le_of_eq hgg.symm) h3 hl h4 h5)
  have HA := Lib.hid (fun (W : World) (k : Nat) (s : Int) (q cq : Nat) (zs : List Int) h1 h2 h3 => among_any w.heap.size W g n v k s q cq zs h1 h2 (Nat.le_of_eq hgg.symm) h3 hl)
  have HP := Lib.hid (fun (W : World) (k : Nat) (s m : Int) h1 h2 h3 h4 h5 => pick_big w.heap.size W g n v k s m h1 h2 (Nat.le_of_eq hgg.symm) h3 hl h4 h5)
  have HQ := Lib.hid (fun (W : World) (k : Nat) (s m : Int) h1 h2 h3 h4 h5 => pick_small w.heap.size W g n v k s m h1 h2 (Nat.le_of_eq hgg.symm) h3 hl h4 h5)
  subst hgg hvv
  clear hv
  have F := Lib.hid (l00From_any a n cap w)
  go_enter Tryz.func5, Tryz.ntmps5
  go_wp2_with fail
  refine F.out.mono ?_
  rintro e w0 ⟨rfl, S0, b0⟩
  have HS0 := Lib.hid S0
  have HB0 := Lib.hid b0
  have hg0 := S0.lt
  clear S0 b0 F
  go_wp2_with fail
  refine (HO.out _ (0) _ 8 HS0.out (HV.out.below HB0.out) (by omega) (by omega) (by omega)).mono ?_
  rintro e w1 ⟨b, s1, rfl, S1, b1, -⟩
  have HS1 := Lib.hid S1
  have hg1 := S1.lt
  have HB1 := Lib.hid (HB0.out.trans b1)
  clear S1 b1
  rcases b with _ | _
  · go_wp2_with fail
    refine (HP.out _ (0 + 1) _ 240 HS1.out (HV.out.below HB1.out) (by omega) (by omega) (by omega)).mono ?_
    rintro e w2 ⟨x, s2, rfl, x0, x1, S2, b2⟩
    have HS2 := Lib.hid S2
    have hg2 := S2.lt
    have HB2 := Lib.hid (HB1.out.trans b2)
    clear S2 b2
    go_wp2_with fail
    refine (HQ.out _ (0 + 1 + 2) _ 6 HS2.out (HV.out.below HB2.out) (by omega) (by omega) (by omega)).mono ?_
    rintro e w3 ⟨y, s3, rfl, y0, y1, S3, b3, -⟩
    have HS3 := Lib.hid S3
    have hg3 := S3.lt
    have HB3 := Lib.hid (HB2.out.trans b3)
    clear S3 b3
    go_wp2_with fail
    go_ret
    exact ⟨_, rfl, by omega, by omega, HB3.out⟩
  · have hb8 : Below w.heap.size w1 (w1.alloc (.cells (iv [-1, 0, 1439, 1440]).toArray 2)) := (Below.refl _ _).alloc (by have := HB1.out.size; omega) _
    have hsA := src_alloc HS1.out (.cells (iv [-1, 0, 1439, 1440]).toArray 2)
    have hcA := new_cells w1 2 [-1, 0, 1439, 1440]
    have A2 : Hid (Calls Tryz.prog 19 #[.pointer (some ⟨w.heap.size, 0, none⟩), .slice (some ⟨w1.heap.size, 0, none⟩) 4 4] (w1.alloc (.cells #[.int .i64 (-1), .int .i64 0, .int .i64 1439, .int .i64 1440] 2)) fun e w' => ∃ (x s' : Int), e = .returned (.int .i64 x) ∧ x ∈ ([-1, 0, 1439, 1440] : List Int) ∧ Src w' w.heap.size (.slice a n cap) ((0 + 1 + 1 : Nat) : Int) s' ∧ Below w.heap.size (w1.alloc (.cells #[.int .i64 (-1), .int .i64 0, .int .i64 1439, .int .i64 1440] 2)) w' ∧ KeepB w.heap.size (w1.alloc (.cells #[.int .i64 (-1), .int .i64 0, .int .i64 1439, .int .i64 1440] 2)) w') :=
      Lib.hid (HA.out (w1.alloc (.cells (iv [-1, 0, 1439, 1440]).toArray 2)) (0 + 1) _ w1.heap.size 4 [-1, 0, 1439, 1440] hsA (HV.out.below (HB1.out.trans hb8)) (by omega) (by decide) (by decide) (by rw [alloc_size8]; omega) (by omega) hcA)
    have HB8 : Hid (Below w.heap.size w1 (w1.alloc (.cells #[.int .i64 (-1), .int .i64 0, .int .i64 1439, .int .i64 1440] 2))) := Lib.hid hb8
    clear hsA hcA hb8
    go_wp2_with fail
    refine A2.out.mono ?_
    rintro e w2 ⟨x, s2, rfl, hx, S2, b2, -⟩
    have hxx : -1 ≤ x ∧ x ≤ 1440 := by simp only [List.mem_cons, List.not_mem_nil, or_false] at hx; omega
    clear hx A2
    have HS2 := Lib.hid S2
    have hg2 := S2.lt
    have HB2 := Lib.hid ((HB1.out.trans HB8.out).trans b2)
    clear S2 b2
    clear HB8
    go_wp2_with fail
    go_ret
    exact ⟨_, rfl, hxx.1, hxx.2, HB2.out⟩
set_option maxHeartbeats 3200000 in
theorem drawFixedText_any (w : World) (v : Value) (n : Nat) (hv : Bs w.heap.size w v n) (hl : n ≤ 1048576) :
    Calls Tryz.prog 8 #[v] w fun e w' => ∃ x y : Int, e = .returned (.tuple #[.int .i64 x, .int .i64 y]) ∧ -1000000001 ≤ x ∧ x ≤ 1000000001 ∧ 0 ≤ y ∧ y ≤ 7 ∧ Below w.heap.size w w' := by
  obtain ⟨a, cap, rfl⟩ := hv.form
  obtain ⟨g, hgg⟩ : ∃ g, g = w.heap.size := ⟨_, rfl⟩
  obtain ⟨v, hvv⟩ : ∃ v : Value, v = .slice a n cap := ⟨_, rfl⟩
  have hv' : Bs w.heap.size w v n := by rw [hvv]; exact hv
  clear hv
  have hv := hv'
  clear hv'
  have HV := Lib.hid hv
  have HO := Lib.hid (fun (W : World) (k : Nat) (s m : Int) h1 h2 h3 h4 h5 => one_any w.heap.size W g n v k s m h1 h2 (Nat.le_of_eq hgg.symm) h3 hl h4 h5)
  have HA := Lib.hid (fun (W : World) (k : Nat) (s : Int) (q cq : Nat) (zs : List Int) h1 h2 h3 => among_any w.heap.size W g n v k s q cq zs h1 h2 (Nat.le_of_eq hgg.symm) h3 hl)
  have HP := Lib.hid (fun (W : World) (k : Nat) (s m : Int) h1 h2 h3 h4 h5 => pick_big w.heap.size W g n v k s m h1 h2 (Nat.le_of_eq hgg.symm) h3 hl h4 h5)
  have HQ := Lib.hid (fun (W : World) (k : Nat) (s m : Int) h1 h2 h3 h4 h5 => pick_small w.heap.size W g n v k s m h1 h2 (Nat.le_of_eq hgg.symm) h3 hl h4 h5)
  subst hgg hvv
  clear hv
  have F := Lib.hid (l00From_any a n cap w)
  go_enter Tryz.func8, Tryz.ntmps8
  go_wp2_with fail
  refine F.out.mono ?_
  rintro e w0 ⟨rfl, S0, b0⟩
  have HS0 := Lib.hid S0
  have HB0 := Lib.hid b0
  have hg0 := S0.lt
  clear S0 b0 F
  go_wp2_with fail
  refine (drawNumber_any w.heap.size _ w.heap.size n (.slice a n cap) (0) _ HS0.out (HV.out.below HB0.out) (Nat.le_refl _) (by omega) hl HB0.out.size).mono ?_
  rintro e w1 ⟨x, s1, k1, rfl, x0, x1, hk1, S1, b1⟩
  have HS1 := Lib.hid S1
  have hg1 := S1.lt
  have HB1 := Lib.hid (HB0.out.trans b1)
  clear S1 b1
  go_wp2_with fail
  refine (drawPlaces_any w.heap.size _ w.heap.size n (.slice a n cap) (k1) _ HS1.out (HV.out.below HB1.out) (Nat.le_refl _) (by omega) hl HB1.out.size).mono ?_
  rintro e w2 ⟨y, s2, k2, rfl, y0, y1, hk2, S2, b2⟩
  have HS2 := Lib.hid S2
  have hg2 := S2.lt
  have HB2 := Lib.hid (HB1.out.trans b2)
  clear S2 b2
  go_wp2_with fail
  go_ret2
  exact ⟨_, _, rfl, x0, x1, y0, y1, HB2.out⟩
set_option maxHeartbeats 3200000 in
theorem drawBeaufortOf_any (w : World) (v : Value) (n : Nat) (hv : Bs w.heap.size w v n) (hl : n ≤ 1048576) :
    Calls Tryz.prog 14 #[v] w fun e w' => ∃ x : Int, e = .returned (.int .i64 x) ∧ -1 ≤ x ∧ x ≤ 100001 ∧ Below w.heap.size w w' := by
  obtain ⟨a, cap, rfl⟩ := hv.form
  obtain ⟨g, hgg⟩ : ∃ g, g = w.heap.size := ⟨_, rfl⟩
  obtain ⟨v, hvv⟩ : ∃ v : Value, v = .slice a n cap := ⟨_, rfl⟩
  have hv' : Bs w.heap.size w v n := by rw [hvv]; exact hv
  clear hv
  have hv := hv'
  clear hv'
  have HV := Lib.hid hv
  have HO := Lib.hid (fun (W : World) (k : Nat) (s m : Int) h1 h2 h3 h4 h5 => one_any w.heap.size W g n v k s m h1 h2 (Nat.le_of_eq hgg.symm) h3 hl h4 h5)
  have HA := Lib.hid (fun (W : World) (k : Nat) (s : Int) (q cq : Nat) (zs : List Int) h1 h2 h3 => among_any w.heap.size W g n v k s q cq zs h1 h2 (Nat.le_of_eq hgg.symm) h3 hl)
  have HP := Lib.hid (fun (W : World) (k : Nat) (s m : Int) h1 h2 h3 h4 h5 => pick_big w.heap.size W g n v k s m h1 h2 (Nat.le_of_eq hgg.symm) h3 hl h4 h5)
  have HQ := Lib.hid (fun (W : World) (k : Nat) (s m : Int) h1 h2 h3 h4 h5 => pick_small w.heap.size W g n v k s m h1 h2 (Nat.le_of_eq hgg.symm) h3 hl h4 h5)
  subst hgg hvv
  clear hv
  have F := Lib.hid (l00From_any a n cap w)
  go_enter Tryz.func14, Tryz.ntmps14
  go_wp2_with fail
  refine F.out.mono ?_
  rintro e w0 ⟨rfl, S0, b0⟩
  have HS0 := Lib.hid S0
  have HB0 := Lib.hid b0
  have hg0 := S0.lt
  clear S0 b0 F
  go_wp2_with fail
  refine (drawSpeed_any w.heap.size _ w.heap.size n (.slice a n cap) (0) _ HS0.out (HV.out.below HB0.out) (Nat.le_refl _) (by omega) hl HB0.out.size).mono ?_
  rintro e w1 ⟨x, s1, k1, rfl, x0, x1, hk1, S1, b1⟩
  have HS1 := Lib.hid S1
  have hg1 := S1.lt
  have HB1 := Lib.hid (HB0.out.trans b1)
  clear S1 b1
  go_wp2_with fail
  go_ret
  exact ⟨_, rfl, x0, x1, HB1.out⟩
set_option maxHeartbeats 3200000 in
theorem drawSnowMass_any (w : World) (v : Value) (n : Nat) (hv : Bs w.heap.size w v n) (hl : n ≤ 1048576) :
    Calls Tryz.prog 11 #[v] w fun e w' => ∃ x y : Int, e = .returned (.tuple #[.int .i64 x, .int .i64 y]) ∧ -1 ≤ x ∧ x ≤ 2001 ∧ 0 ≤ y ∧ y ≤ 1001 ∧ Below w.heap.size w w' := by
  obtain ⟨a, cap, rfl⟩ := hv.form
  obtain ⟨g, hgg⟩ : ∃ g, g = w.heap.size := ⟨_, rfl⟩
  obtain ⟨v, hvv⟩ : ∃ v : Value, v = .slice a n cap := ⟨_, rfl⟩
  have hv' : Bs w.heap.size w v n := by rw [hvv]; exact hv
  clear hv
  have hv := hv'
  clear hv'
  have HV := Lib.hid hv
  have HO := Lib.hid (fun (W : World) (k : Nat) (s m : Int) h1 h2 h3 h4 h5 => one_any w.heap.size W g n v k s m h1 h2 (Nat.le_of_eq hgg.symm) h3 hl h4 h5)
  have HA := Lib.hid (fun (W : World) (k : Nat) (s : Int) (q cq : Nat) (zs : List Int) h1 h2 h3 => among_any w.heap.size W g n v k s q cq zs h1 h2 (Nat.le_of_eq hgg.symm) h3 hl)
  have HP := Lib.hid (fun (W : World) (k : Nat) (s m : Int) h1 h2 h3 h4 h5 => pick_big w.heap.size W g n v k s m h1 h2 (Nat.le_of_eq hgg.symm) h3 hl h4 h5)
  have HQ := Lib.hid (fun (W : World) (k : Nat) (s m : Int) h1 h2 h3 h4 h5 => pick_small w.heap.size W g n v k s m h1 h2 (Nat.le_of_eq hgg.symm) h3 hl h4 h5)
  subst hgg hvv
  clear hv
  have F := Lib.hid (l00From_any a n cap w)
  go_enter Tryz.func11, Tryz.ntmps11
  go_wp2_with fail
  refine F.out.mono ?_
  rintro e w0 ⟨rfl, S0, b0⟩
  have HS0 := Lib.hid S0
  have HB0 := Lib.hid b0
  have hg0 := S0.lt
  clear S0 b0 F
  go_wp2_with fail
  refine (HP.out _ (0) _ 300 HS0.out (HV.out.below HB0.out) (by omega) (by omega) (by omega)).mono ?_
  rintro e w1 ⟨h, s1, rfl, h0, h1, S1, b1⟩
  have HS1 := Lib.hid S1
  have hg1 := S1.lt
  have HB1 := Lib.hid (HB0.out.trans b1)
  clear S1 b1
  go_wp2_with fail
  refine (HO.out _ (0 + 2) _ 9 HS1.out (HV.out.below HB1.out) (by omega) (by omega) (by omega)).mono ?_
  rintro e w2 ⟨b, s2, rfl, S2, b2, -⟩
  have HS2 := Lib.hid S2
  have hg2 := S2.lt
  have HB2 := Lib.hid (HB1.out.trans b2)
  clear S2 b2
  rcases b with _ | _
  · go_wp2_with fail
    refine (drawDensity_any w.heap.size _ w.heap.size n (.slice a n cap) (0 + 2 + 1) _ HS2.out (HV.out.below HB2.out) (Nat.le_refl _) (by omega) hl HB2.out.size).mono ?_
    rintro e w3 ⟨y, s3, k3, rfl, y0, y1, hk3, S3, b3⟩
    have HS3 := Lib.hid S3
    have hg3 := S3.lt
    have HB3 := Lib.hid (HB2.out.trans b3)
    clear S3 b3
    go_wp2_with fail
    go_ret2
    exact ⟨_, _, rfl, by omega, by omega, y0, y1, HB3.out⟩
  · have hb8 : Below w.heap.size w2 (w2.alloc (.cells (iv [-1, 0, 2000, 2001]).toArray 2)) := (Below.refl _ _).alloc (by have := HB2.out.size; omega) _
    have hsA := src_alloc HS2.out (.cells (iv [-1, 0, 2000, 2001]).toArray 2)
    have hcA := new_cells w2 2 [-1, 0, 2000, 2001]
    have A3 : Hid (Calls Tryz.prog 19 #[.pointer (some ⟨w.heap.size, 0, none⟩), .slice (some ⟨w2.heap.size, 0, none⟩) 4 4] (w2.alloc (.cells #[.int .i64 (-1), .int .i64 0, .int .i64 2000, .int .i64 2001] 2)) fun e w' => ∃ (x s' : Int), e = .returned (.int .i64 x) ∧ x ∈ ([-1, 0, 2000, 2001] : List Int) ∧ Src w' w.heap.size (.slice a n cap) ((0 + 2 + 1 + 1 : Nat) : Int) s' ∧ Below w.heap.size (w2.alloc (.cells #[.int .i64 (-1), .int .i64 0, .int .i64 2000, .int .i64 2001] 2)) w' ∧ KeepB w.heap.size (w2.alloc (.cells #[.int .i64 (-1), .int .i64 0, .int .i64 2000, .int .i64 2001] 2)) w') :=
      Lib.hid (HA.out (w2.alloc (.cells (iv [-1, 0, 2000, 2001]).toArray 2)) (0 + 2 + 1) _ w2.heap.size 4 [-1, 0, 2000, 2001] hsA (HV.out.below (HB2.out.trans hb8)) (by omega) (by decide) (by decide) (by rw [alloc_size8]; omega) (by omega) hcA)
    have HB8 : Hid (Below w.heap.size w2 (w2.alloc (.cells #[.int .i64 (-1), .int .i64 0, .int .i64 2000, .int .i64 2001] 2))) := Lib.hid hb8
    clear hsA hcA hb8
    go_wp2_with fail
    refine A3.out.mono ?_
    rintro e w3 ⟨x, s3, rfl, hx, S3, b3, -⟩
    have hxx : -1 ≤ x ∧ x ≤ 2001 := by simp only [List.mem_cons, List.not_mem_nil, or_false] at hx; omega
    clear hx A3
    have HS3 := Lib.hid S3
    have hg3 := S3.lt
    have HB3 := Lib.hid ((HB2.out.trans HB8.out).trans b3)
    clear S3 b3
    clear HB8
    go_wp2_with fail
    refine (drawDensity_any w.heap.size _ w.heap.size n (.slice a n cap) (0 + 2 + 1 + 1) _ HS3.out (HV.out.below HB3.out) (Nat.le_refl _) (by omega) hl HB3.out.size).mono ?_
    rintro e w4 ⟨y, s4, k4, rfl, y0, y1, hk4, S4, b4⟩
    have HS4 := Lib.hid S4
    have hg4 := S4.lt
    have HB4 := Lib.hid (HB3.out.trans b4)
    clear S4 b4
    go_wp2_with fail
    go_ret2
    exact ⟨_, _, rfl, hxx.1, hxx.2, y0, y1, HB4.out⟩
end Go.Proofs.YtommcckihanedaaGreatDoor

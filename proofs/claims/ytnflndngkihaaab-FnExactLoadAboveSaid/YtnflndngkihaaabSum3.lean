/-
  HeightOf, MassOf, ColdOf and ThicknessOf of chapter 3, by the program and by the model. No condition of its own.
-/
import Derived.Test.YtnflndngkihaaabSum2
namespace Go.Proofs.Ytnflndngkihaaab
open Go.RowKit Go.Shelf
set_option linter.unusedVariables false

theorem bd100 {y : Int} (h : 0 ≤ y ∧ y ≤ 1000001) : 0 ≤ y ∧ y ≤ 100000000 := ⟨h.1, by omega⟩
set_option maxHeartbeats 800000 in
theorem implHeightOf_any (w : World) (v : Value) (xs : List Lay) (hv : LSl w v xs) (hl : xs.length ≤ 1048576) :
    Calls Try.prog 22 #[v] w fun e w' => e = .returned (.tuple #[.int .i64 (rv (La.okP xs) (La.sm La.thick xs)), .int .i64 (rc (La.okP xs) 1)]) ∧ Below w.heap.size w w' := by
  have C := Lib.hid (profileSum_any 45 (enters_of Try.func45 (by kernel_rfl) rfl) La.thick w v xs hl hv (fun x hx => bd100 (La.thick_bd hx)) (fun x hx W => thickness_any x W hx))
  clear hv
  go_enter Try.func22, Try.ntmps22
  go_wp2_with fail
  refine C.out.mono ?_
  rintro e w1 ⟨rfl, b1⟩
  have B1 := Lib.hid b1
  clear b1
  go_wp2_with fail
  go_ret2
  exact ⟨rfl, B1.out⟩
set_option maxHeartbeats 800000 in
theorem specHeightOf_any (w : World) (v : Value) (xs : List Lay) (hv : LSl w v xs) (hl : xs.length ≤ 1048576) :
    Calls Try.prog 21 #[v] w fun e w' => e = .returned (.tuple #[.int .i64 (rv (La.okP xs) (La.sm La.thick xs)), .int .i64 (rc (La.okP xs) 1)]) ∧ Below w.heap.size w w' := by
  have C1 := Lib.hid (l03Ok_any w v xs hv hl)
  cases hq : La.okP xs with
  | true =>
    have C2 := Lib.hid (l03Height_any w v xs hq hv)
    rw [hq] at C1
    clear hq hv
    go_enter Try.func21, Try.ntmps21
    go_wp2_with fail
    refine C1.out.mono ?_
    rintro e w1 ⟨rfl, rfl⟩
    go_wp2_with fail
    refine C2.out.mono ?_
    rintro e w1 ⟨rfl, b1⟩
    have B1 := Lib.hid b1
    clear b1
    go_wp2_with fail
    go_ret2
    exact ⟨rfl, B1.out⟩
  | false =>
    rw [hq] at C1
    clear hq hv
    go_enter Try.func21, Try.ntmps21
    go_wp2_with fail
    refine C1.out.mono ?_
    rintro e w1 ⟨rfl, rfl⟩
    go_wp2_with fail
    go_ret2
    exact ⟨rfl, Below.refl _ _⟩
set_option maxHeartbeats 800000 in
theorem implMassOf_any (w : World) (v : Value) (xs : List Lay) (hv : LSl w v xs) (hl : xs.length ≤ 1048576) :
    Calls Try.prog 24 #[v] w fun e w' => e = .returned (.tuple #[.int .i64 (rv (La.okP xs) (La.sm Lay.ic xs)), .int .i64 (rv (La.okP xs) (La.sm Lay.wa xs)), .int .i64 (rc (La.okP xs) 1)]) ∧ Below w.heap.size w w' := by
  have C1 := Lib.hid (profileSum_any 50 (enters_of Try.func50 (by kernel_rfl) rfl) Lay.ic w v xs hl hv (fun x hx => ⟨by have := hx.i1; omega, by have := hx.i2; omega⟩) (fun x hx W => iceLit_any x W))
  have C2 : Hid (∀ W, Below w.heap.size w W → Calls Try.prog 48 #[v, .func (.func 51) #[] #[]] W fun e w' => e = .returned (.tuple #[.int .i64 (rv (La.okP xs) (La.sm Lay.wa xs)), .int .i64 (rc (La.okP xs) 1)]) ∧ Below W.heap.size W w') :=
    Lib.hid (fun W hW => profileSum_any 51 (enters_of Try.func51 (by kernel_rfl) rfl) Lay.wa W v xs hl (hv.below hW) (fun x hx => ⟨by have := hx.w1; omega, by have := hx.w2; omega⟩) (fun x hx W => waterLit_any x W))
  clear hv
  go_enter Try.func24, Try.ntmps24
  go_wp2_with fail
  refine C1.out.mono ?_
  rintro e w1 ⟨rfl, b1⟩
  have B1 := Lib.hid b1
  clear b1
  go_wp2_with fail
  refine (C2.out w1 B1.out).mono ?_
  rintro e w2 ⟨rfl, b2⟩
  have B2 := Lib.hid (bt B1.out b2)
  clear b2
  go_wp2_with fail
  go_ret3
  exact ⟨rfl, B2.out⟩
set_option maxHeartbeats 800000 in
theorem specMassOf_any (w : World) (v : Value) (xs : List Lay) (hv : LSl w v xs) (hl : xs.length ≤ 1048576) :
    Calls Try.prog 23 #[v] w fun e w' => e = .returned (.tuple #[.int .i64 (rv (La.okP xs) (La.sm Lay.ic xs)), .int .i64 (rv (La.okP xs) (La.sm Lay.wa xs)), .int .i64 (rc (La.okP xs) 1)]) ∧ Below w.heap.size w w' := by
  have C1 := Lib.hid (l03Ok_any w v xs hv hl)
  cases hq : La.okP xs with
  | true =>
    obtain ⟨h16, hfit⟩ := (La.okP_iff xs).1 hq
    have C2 := Lib.hid (l03Mass_any w v xs h16 hfit hv)
    rw [hq] at C1
    clear hq hv hfit
    go_enter Try.func23, Try.ntmps23
    go_wp2_with fail
    refine C1.out.mono ?_
    rintro e w1 ⟨rfl, rfl⟩
    go_wp2_with fail
    refine C2.out.mono ?_
    rintro e w1 ⟨rfl, rfl⟩
    go_wp2_with fail
    go_ret3
    exact ⟨rfl, Below.refl _ _⟩
  | false =>
    rw [hq] at C1
    clear hq hv
    go_enter Try.func23, Try.ntmps23
    go_wp2_with fail
    refine C1.out.mono ?_
    rintro e w1 ⟨rfl, rfl⟩
    go_wp2_with fail
    go_ret3
    exact ⟨rfl, Below.refl _ _⟩
set_option maxHeartbeats 800000 in
theorem implColdOf_any (w : World) (v : Value) (xs : List Lay) (hv : LSl w v xs) (hl : xs.length ≤ 1048576) :
    Calls Try.prog 38 #[v] w fun e w' => e = .returned (.tuple #[.int .i64 (rv (La.okP xs) (La.sm La.cold xs)), .int .i64 (rc (La.okP xs) 1)]) ∧ Below w.heap.size w w' := by
  have C := Lib.hid (profileSum_any 68 (enters_of Try.func68 (by kernel_rfl) rfl) La.cold w v xs hl hv (fun x hx => ⟨(La.cold_bd hx).1, by have := (La.cold_bd hx).2; omega⟩) (fun x hx W => cold_any x W hx))
  clear hv
  go_enter Try.func38, Try.ntmps38
  go_wp2_with fail
  refine C.out.mono ?_
  rintro e w1 ⟨rfl, b1⟩
  have B1 := Lib.hid b1
  clear b1
  go_wp2_with fail
  go_ret2
  exact ⟨rfl, B1.out⟩
set_option maxHeartbeats 1600000 in
theorem specColdOf_any (w : World) (v : Value) (xs : List Lay) (hv : LSl w v xs) (hl : xs.length ≤ 1048576) :
    Calls Try.prog 37 #[v] w fun e w' => e = .returned (.tuple #[.int .i64 (rv (La.okP xs) (La.sm La.cold xs)), .int .i64 (rc (La.okP xs) 1)]) ∧ Below w.heap.size w w' := by
  have C1 := Lib.hid (l03Ok_any w v xs hv hl)
  cases hq : La.okP xs with
  | true =>
    obtain ⟨h16, hfit⟩ := (La.okP_iff xs).1 hq
    obtain ⟨a, cap, rfl⟩ := hv.form
    have HV := Lib.hid hv
    have HF := Lib.hid hfit
    rw [hq] at C1
    clear hv hfit hq
    go_enter Try.func37, Try.ntmps37
    go_wp2_with fail
    refine C1.out.mono ?_
    rintro e w1 ⟨rfl, rfl⟩
    go_wp2_with fail
    go_loopw [4, 5] (fun s i wr => ∃ (k : Nat) (z : Int), k ≤ xs.length ∧ i = .int .i64 k ∧ s = .int .i64 z ∧ 0 ≤ z ∧ z ≤ 100000000 * k ∧ Hid (z = La.sm La.cold (xs.take k)) ∧ (∃ n, wr = w.drewN n)) (fun _ i _ => xs.length - (intOf i).toNat)
    case atStart => exact ⟨0, 0, Nat.zero_le _, rfl, rfl, by omega, by omega, Lib.hid rfl, 0, rfl⟩
    case round =>
      obtain ⟨k, z, hk, rfl, rfl, z1, z2, hz, n, rfl⟩ := hrel
      by_cases hlt : k < xs.length
      · obtain ⟨b, off, cap1, hn, hbl, hcc⟩ := (HV.out.drewN n).at_ hlt
        simp only [Value.slice.injEq] at hn
        obtain ⟨rfl, -, rfl⟩ := hn
        have ht := La.cold_bd (HF.out _ (List.getElem_mem hlt))
        obtain ⟨f1, f2⟩ := ht
        have C := Lib.hid (l03Cold_any xs[k] b (off + k * 7) _ (hcc k hlt) (HF.out _ (List.getElem_mem hlt)))
        have hn := Lib.hid (La.sm_snoc La.cold hlt)
        clear hcc
        generalize La.cold xs[k] = y at *
        go_wp2_with fail
        refine C.out.mono ?_
        rintro e w1 ⟨rfl, n1, rfl⟩
        go_wp2_with fail
        exact ⟨⟨k + 1, z + y, by omega, by go_num, rfl, by omega, by omega, Lib.hid (by rw [hn.out, hz.out]), _, rfl⟩, by simp only [intOf]; omega⟩
      · have hkn : k = xs.length := by omega
        have HZ : Hid (z = La.sm La.cold xs) := Lib.hid (by rw [hz.out, hkn, List.take_length])
        clear hkn
        go_wp2
        go_ret2
        exact ⟨ret_ii HZ.out rfl, below_drewW _ _⟩
  | false =>
    rw [hq] at C1
    clear hq hv
    go_enter Try.func37, Try.ntmps37
    go_wp2_with fail
    refine C1.out.mono ?_
    rintro e w1 ⟨rfl, rfl⟩
    go_wp2_with fail
    go_ret2
    exact ⟨rfl, Below.refl _ _⟩
set_option maxHeartbeats 800000 in
theorem implThicknessOf_any (x : Lay) (w : World) :
    Calls Try.prog 20 #[.agg #[.int .i64 x.fo, .int .i64 x.ic, .int .i64 x.wa, .int .i64 x.de, .int .i64 x.dg, .int .i64 x.ha, .int .i64 x.ag]] w fun e w' => e = .returned (.tuple #[.int .i64 (rv (La.okL x) (La.thick x)), .int .i64 (rc (La.okL x) 1)]) ∧ Below w.heap.size w w' := by
  have C1 := fun W => Lib.hid (implValidLayer_any x W)
  cases hq : La.okL x with
  | true =>
    have C2 := fun W => Lib.hid (thickness_any x W ((La.okL_iff x).1 hq))
    rw [hq] at C1
    clear hq
    go_enter Try.func20, Try.ntmps20
    go_wp2_with fail
    refine (C1 (boxed w x 32)).out.mono ?_
    rintro e w1 ⟨rfl, b1⟩
    have B1 := Lib.hid b1
    obtain ⟨c0, c1, c2, c3, c4, c5, c6⟩ := (boxed_kept B1.out).zero
    clear b1
    go_wp2_with fail
    refine (C2 _).out.mono ?_
    rintro e w2 ⟨rfl, b2⟩
    have B2 := Lib.hid (bt (boxed_below w x 32) (bt B1.out b2))
    clear b2 c0 c1 c2 c3 c4 c5 c6
    go_wp2_with fail
    go_ret2
    exact ⟨rfl, B2.out⟩
  | false =>
    rw [hq] at C1
    clear hq
    go_enter Try.func20, Try.ntmps20
    go_wp2_with fail
    refine (C1 (boxed w x 32)).out.mono ?_
    rintro e w1 ⟨rfl, b1⟩
    have B1 := Lib.hid (bt (boxed_below w x 32) b1)
    clear b1
    go_wp2_with fail
    go_ret2
    exact ⟨rfl, B1.out⟩
set_option maxHeartbeats 800000 in
theorem specThicknessOf_any (x : Lay) (w : World) :
    Calls Try.prog 18 #[.agg #[.int .i64 x.fo, .int .i64 x.ic, .int .i64 x.wa, .int .i64 x.de, .int .i64 x.dg, .int .i64 x.ha, .int .i64 x.ag]] w fun e w' => e = .returned (.tuple #[.int .i64 (rv (La.okL x) (La.thick x)), .int .i64 (rc (La.okL x) 1)]) ∧ Below w.heap.size w w' := by
  have C1 := Lib.hid (l03One_any x w.heap.size 0 _ (boxed_cells w x 32))
  cases hq : La.okL x with
  | true =>
    have C2 := Lib.hid (l03Thick_any x w.heap.size 0 _ (boxed_cells w x 32) ((La.okL_iff x).1 hq))
    rw [hq] at C1
    clear hq
    go_enter Try.func18, Try.ntmps18
    go_wp2_with fail
    refine C1.out.mono ?_
    rintro e w1 ⟨rfl, rfl⟩
    go_wp2_with fail
    refine C2.out.mono ?_
    rintro e w2 ⟨rfl, n, rfl⟩
    go_wp2_with fail
    go_ret2
    exact ⟨rfl, bt (boxed_below w x 32) (below_drewW _ _)⟩
  | false =>
    rw [hq] at C1
    clear hq
    go_enter Try.func18, Try.ntmps18
    go_wp2_with fail
    refine C1.out.mono ?_
    rintro e w1 ⟨rfl, rfl⟩
    go_wp2_with fail
    go_ret2
    exact ⟨rfl, boxed_below w x 32⟩
end Go.Proofs.Ytnflndngkihaaab

/-
  HeightOf, MassOf, ColdOf and ThicknessOf of chapter 3, by the program and by the model. No condition of its own.
-/
import Derived.Test.YtfbfdiejffjbmaaSum2
namespace Go.Proofs.Ytfbfdiejffjbmaa
open Go.RowKit Go.Shelf
set_option linter.unusedVariables false
set_option maxRecDepth 100000

theorem bd100 {y : Int} (h : 0 ≤ y ∧ y ≤ 1000001) : 0 ≤ y ∧ y ≤ 100000000 := ⟨h.1, by omega⟩
set_option maxHeartbeats 800000 in
theorem specMassOf_any (w : World) (v : Value) (xs : List Lay) (hv : LSl w v xs) (hl : xs.length ≤ 1048576) :
    Calls Try.prog 43 #[v] w fun e w' => e = .returned (.tuple #[.int .i64 (rv (La.okP xs) (La.sm Lay.ic xs)), .int .i64 (rv (La.okP xs) (La.sm Lay.wa xs)), .int .i64 (rc (La.okP xs) 1)]) ∧ Below w.heap.size w w' := by
  have C1 := Lib.hid (l03Ok_any w v xs hv hl)
  cases hq : La.okP xs with
  | true =>
    obtain ⟨h16, hfit⟩ := (La.okP_iff xs).1 hq
    have C2 := Lib.hid (l03Mass_any w v xs h16 hfit hv)
    rw [hq] at C1
    clear hq hv hfit
    go_enter Try.func43, Try.ntmps43
    go_wp2_with fail
    refine C1.out.mono ?_
    rintro e w1 ⟨rfl, rfl⟩
    go_wp2_with fail
    refine C2.out.mono ?_
    rintro e w1 ⟨rfl, rfl⟩
    go_wp2_with fail
    go_ret3
    exact ⟨rfl, Below.refl _ _⟩
  | false =>
    rw [hq] at C1
    clear hq hv
    go_enter Try.func43, Try.ntmps43
    go_wp2_with fail
    refine C1.out.mono ?_
    rintro e w1 ⟨rfl, rfl⟩
    go_wp2_with fail
    go_ret3
    exact ⟨rfl, Below.refl _ _⟩
set_option maxHeartbeats 800000 in
theorem implColdOf_any (w : World) (v : Value) (xs : List Lay) (hv : LSl w v xs) (hl : xs.length ≤ 1048576) :
    Calls Try.prog 44 #[v] w fun e w' => e = .returned (.tuple #[.int .i64 (rv (La.okP xs) (La.sm La.cold xs)), .int .i64 (rc (La.okP xs) 1)]) ∧ Below w.heap.size w w' := by
  have C := Lib.hid (profileSum_any 98 (enters_of Try.func98 (by kernel_rfl) rfl) La.cold w v xs hl hv (fun x hx => ⟨(La.cold_bd hx).1, by have := (La.cold_bd hx).2; omega⟩) (fun x hx W => cold_any x W hx))
  clear hv
  go_enter Try.func44, Try.ntmps44
  go_wp2_with fail
  refine C.out.mono ?_
  rintro e w1 ⟨rfl, b1⟩
  have B1 := Lib.hid b1
  clear b1
  go_wp2_with fail
  go_ret2
  exact ⟨rfl, B1.out⟩
set_option maxHeartbeats 1600000 in
theorem specColdOf_any (w : World) (v : Value) (xs : List Lay) (hv : LSl w v xs) (hl : xs.length ≤ 1048576) :
    Calls Try.prog 48 #[v] w fun e w' => e = .returned (.tuple #[.int .i64 (rv (La.okP xs) (La.sm La.cold xs)), .int .i64 (rc (La.okP xs) 1)]) ∧ Below w.heap.size w w' := by
  have C1 := Lib.hid (l03Ok_any w v xs hv hl)
  cases hq : La.okP xs with
  | true =>
    obtain ⟨h16, hfit⟩ := (La.okP_iff xs).1 hq
    obtain ⟨a, cap, rfl⟩ := hv.form
    have HV := Lib.hid hv
    have HF := Lib.hid hfit
    rw [hq] at C1
    clear hv hfit hq
    go_enter Try.func48, Try.ntmps48
    go_wp2_with fail
    refine C1.out.mono ?_
    rintro e w1 ⟨rfl, rfl⟩
    go_wp2_with fail
    go_loopw [4, 5] (fun s i wr => ∃ (k : Nat) (z : Int), k ≤ xs.length ∧ i = .int .i64 k ∧ s = .int .i64 z ∧ 0 ≤ z ∧ z ≤ 100000000 * k ∧ Hid (z = La.sm La.cold (xs.take k)) ∧ (∃ n, wr = w.drewN n)) (fun _ i _ => xs.length - (intOf i).toNat)
    case atStart => exact ⟨0, 0, Nat.zero_le _, rfl, rfl, by omega, by omega, Lib.hid rfl, 0, rfl⟩
    case round =>
      obtain ⟨k, z, hk, rfl, rfl, z1, z2, hz, n, rfl⟩ := hrel
      by_cases hlt : k < xs.length
      · obtain ⟨b, off, cap1, hn, hbl, hcc⟩ := (HV.out.drewN n).at_ hlt
        simp only [Value.slice.injEq] at hn
        obtain ⟨rfl, -, rfl⟩ := hn
        have ht := La.cold_bd (HF.out _ (List.getElem_mem hlt))
        obtain ⟨f1, f2⟩ := ht
        have C := Lib.hid (l03Cold_any xs[k] b (off + k * 7) _ (hcc k hlt) (HF.out _ (List.getElem_mem hlt)))
        have hn := Lib.hid (La.sm_snoc La.cold hlt)
        clear hcc
        generalize La.cold xs[k] = y at *
        go_wp2_with fail
        refine C.out.mono ?_
        rintro e w1 ⟨rfl, n1, rfl⟩
        go_wp2_with fail
        exact ⟨⟨k + 1, z + y, by omega, by go_num, rfl, by omega, by omega, Lib.hid (by rw [hn.out, hz.out]), _, rfl⟩, by simp only [intOf]; omega⟩
      · have hkn : k = xs.length := by omega
        have HZ : Hid (z = La.sm La.cold xs) := Lib.hid (by rw [hz.out, hkn, List.take_length])
        clear hkn
        go_wp2
        go_ret2
        exact ⟨ret_ii HZ.out rfl, below_drewW _ _⟩
  | false =>
    rw [hq] at C1
    clear hq hv
    go_enter Try.func48, Try.ntmps48
    go_wp2_with fail
    refine C1.out.mono ?_
    rintro e w1 ⟨rfl, rfl⟩
    go_wp2_with fail
    go_ret2
    exact ⟨rfl, Below.refl _ _⟩
end Go.Proofs.Ytfbfdiejffjbmaa

/-
  When a path is valid, by the model; its tangents, legs and lines (chapter 14). No condition of its own.
-/
import Derived.Test.YtmieckchppfogaaPthF
import Derived.Test.YtmieckchppfogaaAgN
import Derived.Test.YtmieckchppfogaaCd
import Derived.Test.YtmieckchppfogaaUnits
import Derived.Test.YtmieckchppfogaaLine
namespace Go.Proofs.Ytmieckchppfogaa
open Go.RowKit Go.Shelf
set_option linter.unusedVariables false
set_option maxRecDepth 100000

/-- the cells of the points of a path -/
def PtAt (w : World) (b off : Nat) (xs : List Pth) : Prop := ∀ k, k < xs.length → w.cell? ⟨b, off + k * 2, none⟩ = some (.int .i64 (An.nd xs k).di) ∧ w.cell? ⟨b, off + k * 2 + 1, none⟩ = some (.int .i64 (An.nd xs k).he)
theorem PtAt.below {w w1 : World} {b off : Nat} {xs : List Pth} (h : PtAt w b off xs) (hb : Below w.heap.size w w1) : PtAt w1 b off xs := fun k hk => by
  obtain ⟨c0, c1⟩ := h k hk
  have hlt := World.block_lt_of_cell? w _ c0
  exact ⟨(hb.cell (p := ⟨b, off + k * 2, none⟩) hlt).trans c0, (hb.cell (p := ⟨b, off + k * 2 + 1, none⟩) hlt).trans c1⟩
theorem PtAt.zero {w : World} {b off : Nat} {xs : List Pth} (h : PtAt w b off xs) (h0 : 0 < xs.length) : w.cell? ⟨b, off, none⟩ = some (.int .i64 (An.nd xs 0).di) ∧ w.cell? ⟨b, off + 1, none⟩ = some (.int .i64 (An.nd xs 0).he) := by
  have := h 0 h0
  rw [Nat.zero_mul, Nat.add_zero] at this; exact this
theorem PpSl.pts {w : World} {v : Value} {xs : List Pth} (h : PpSl w v xs) (h0 : 0 < xs.length) : ∃ b off cap, v = .slice (some ⟨b, off, none⟩) xs.length cap ∧ PtAt w b off xs := by
  obtain ⟨b, off, cap, hn, hbl, hc⟩ := h.at_ h0
  refine ⟨b, off, cap, hn, fun k hk => ?_⟩
  rw [An.nd_at hk]
  obtain ⟨c0, c1⟩ := hc k hk
  exact ⟨c0, c1⟩

set_option maxHeartbeats 3200000 in
theorem l14Ok_any (w : World) (v : Value) (xs : List Pth) (hv : PpSl w v xs) (hl : xs.length ≤ 1048576) :
    Calls Try.prog 44 #[v] w fun e w' => e = .returned (.bool (An.okB xs)) ∧ Below w.heap.size w w' := by
  obtain ⟨a, cap, rfl⟩ := hv.form
  have HV := Lib.hid hv
  clear hv
  go_enter Try.func44, Try.ntmps44
  go_wp2
  go_loopw [3] (fun i wr => ∃ k : Nat, k ≤ xs.length ∧ i = .int .i64 (k : Int) ∧ Hid (∀ j, j < k → An.okA xs j = true) ∧ Hid (Below w.heap.size w wr)) (fun i _ => xs.length - (intOf i).toNat)
  case atStart => exact ⟨0, Nat.zero_le _, rfl, Lib.hid (fun j hj => absurd hj (Nat.not_lt_zero _)), Lib.hid (Below.refl _ _)⟩
  case round =>
    obtain ⟨k, hk, rfl, hr, hb⟩ := hrel
    by_cases hlt : k < xs.length
    · have hltz : (k : Int) < (xs.length : Int) := by omega
      have h0z : (0 : Int) < (xs.length : Int) := by omega
      obtain ⟨b, off, cap1, hn, P⟩ := (HV.out.below hb.out).pts (by omega)
      simp only [Value.slice.injEq] at hn
      obtain ⟨rfl, -, rfl⟩ := hn
      obtain ⟨c0, c1⟩ := P k hlt
      obtain ⟨z0, z1⟩ := P.zero (by omega)
      have hbl : b < wr.heap.size := World.block_lt_of_cell? wr _ c0
      have B1 := Lib.hid (fun (o : Obj) (q : Nat) => below_drewN (bt hb.out ((Below.refl wr.heap.size wr).alloc (Nat.le_refl _) o)) q)
      have NO := Lib.hid (fun (h : An.okA xs k = false) => An.okB_bad hlt h)
      have YES := Lib.hid (fun (h : An.okA xs k = true) => Lib.hid (fun j (hj : j < k + 1) => (by
        rcases Nat.lt_or_ge j k with h1 | h1
        · exact hr.out j h1
        · have : j = k := by omega
          rw [this]; exact h : An.okA xs j = true)))
      have OKA : Hid (An.okA xs k = (Ar.inB 0 (An.nd xs k).di 20000 && (Ar.inB 0 (An.nd xs k).he 9000 && (decide ((An.nd xs k).he ≤ (An.nd xs 0).he) && (k == 0 || decide ((An.nd xs (k - 1)).di < (An.nd xs k).di)))))) := Lib.hid rfl
      cases h1 : Ar.inB 0 (An.nd xs k).di 20000 with
      | false =>
        have N := Lib.hid (NO.out (by rw [OKA.out, h1]; rfl))
        clear NO YES OKA P hr
        generalize (An.nd xs k).di = d at *
        generalize (An.nd xs k).he = e at *
        go_wp2_with fail
        go_quiet ((go_at_call 53; exact Calls.quiet_of_same ((l00In_any _ _ _ _).mono fun _ _ ⟨h, h'⟩ => ⟨h, h'.symm⟩)))
        go_wp2_with fail
        go_ret
        exact ⟨ret_bool N.out.symm, B1.out _ _⟩
      | true =>
        cases h2 : Ar.inB 0 (An.nd xs k).he 9000 with
        | false =>
          have N := Lib.hid (NO.out (by rw [OKA.out, h1, h2]; rfl))
          clear NO YES OKA P hr
          generalize (An.nd xs k).di = d at *
          generalize (An.nd xs k).he = e at *
          go_wp2_with fail
          go_quiet ((go_at_call 53; exact Calls.quiet_of_same ((l00In_any _ _ _ _).mono fun _ _ ⟨h, h'⟩ => ⟨h, h'.symm⟩)))
          go_wp2_with fail
          go_ret
          exact ⟨ret_bool N.out.symm, B1.out _ _⟩
        | true =>
          cases h3 : decide ((An.nd xs 0).he < (An.nd xs k).he) with
          | true =>
            have N := Lib.hid (NO.out (by rw [OKA.out, h1, h2, decide_eq_false (p := (An.nd xs k).he ≤ (An.nd xs 0).he) (by have := of_decide_eq_true h3; omega)]; rfl))
            clear NO YES OKA P hr
            generalize (An.nd xs k).di = d at *
            generalize (An.nd xs k).he = e at *
            generalize (An.nd xs 0).di = d0 at *
            generalize (An.nd xs 0).he = e0 at *
            go_wp2_with fail
            go_quiet ((go_at_call 53; exact Calls.quiet_of_same ((l00In_any _ _ _ _).mono fun _ _ ⟨h, h'⟩ => ⟨h, h'.symm⟩)))
            go_wp2_with fail
            go_ret
            exact ⟨ret_bool N.out.symm, B1.out _ _⟩
          | false =>
            have h4 : decide ((An.nd xs k).he ≤ (An.nd xs 0).he) = true := decide_eq_true (by have := of_decide_eq_false h3; omega)
            by_cases hk0 : k = 0
            · subst hk0
              have Y := YES.out (by rw [OKA.out, h1, h2, h4]; rfl)
              have hg : decide ((0 : Int) < ((0 : Nat) : Int)) = false := rfl
              rw [Nat.zero_mul, Nat.add_zero] at c0 c1
              clear NO YES OKA P hr h4 hltz z0 z1
              generalize (An.nd xs 0).di = d0 at *
              generalize (An.nd xs 0).he = e0 at *
              go_wp2_with fail
              go_quiet ((go_at_call 53; exact Calls.quiet_of_same ((l00In_any _ _ _ _).mono fun _ _ ⟨h, h'⟩ => ⟨h, h'.symm⟩)))
              go_wp2_with fail
              exact ⟨⟨1, by omega, by go_num, Y, Lib.hid (B1.out _ _)⟩, by simp only [intOf]; omega⟩
            · obtain ⟨m, rfl⟩ : ∃ m, k = m + 1 := ⟨k - 1, by omega⟩
              have hg : decide ((0 : Int) < ((m + 1 : Nat) : Int)) = true := decide_eq_true (by omega)
              have hmz : (m : Int) < (xs.length : Int) := by omega
              have h0m : (0 : Int) ≤ (m : Int) := by omega
              obtain ⟨p0, p1⟩ := P m (by omega)
              have hm1 : m + 1 - 1 = m := rfl
              cases h5 : decide ((An.nd xs (m + 1)).di ≤ (An.nd xs m).di) with
              | true =>
                have N := Lib.hid (NO.out (by rw [OKA.out, h1, h2, h4, hm1, decide_eq_false (p := (An.nd xs m).di < (An.nd xs (m + 1)).di) (by have := of_decide_eq_true h5; omega)]; rfl))
                have HLT := Lib.hid hlt
                clear NO YES OKA P hr h4 hk0 hlt hk
                generalize (An.nd xs (m + 1)).di = d at *
                generalize (An.nd xs (m + 1)).he = e at *
                generalize (An.nd xs m).di = dm at *
                generalize (An.nd xs 0).he = e0 at *
                go_wp2_with fail
                go_quiet ((go_at_call 53; exact Calls.quiet_of_same ((l00In_any _ _ _ _).mono fun _ _ ⟨h, h'⟩ => ⟨h, h'.symm⟩)))
                go_wp2_with fail
                go_ret
                exact ⟨ret_bool N.out.symm, B1.out _ _⟩
              | false =>
                have Y := YES.out (by rw [OKA.out, h1, h2, h4, hm1, decide_eq_true (p := (An.nd xs m).di < (An.nd xs (m + 1)).di) (by have := of_decide_eq_false h5; omega), Bool.or_true]; rfl)
                have HLT := Lib.hid hlt
                clear NO YES OKA P hr h4 hk0 hlt hk
                generalize (An.nd xs (m + 1)).di = d at *
                generalize (An.nd xs (m + 1)).he = e at *
                generalize (An.nd xs m).di = dm at *
                generalize (An.nd xs 0).he = e0 at *
                go_wp2_with fail
                go_quiet ((go_at_call 53; exact Calls.quiet_of_same ((l00In_any _ _ _ _).mono fun _ _ ⟨h, h'⟩ => ⟨h, h'.symm⟩)))
                go_wp2_with fail
                exact ⟨⟨m + 1 + 1, by have := HLT.out; omega, by go_num, Y, Lib.hid (B1.out _ _)⟩, by have := HLT.out; simp only [intOf]; omega⟩
    · have hltz : ¬ (k : Int) < (xs.length : Int) := by omega
      have N : Hid (An.okB xs = An.okL xs) := Lib.hid (An.okB_end (fun j hj => hr.out j (by omega)))
      clear hr
      have OKL : Hid (An.okL xs = (decide (2 ≤ xs.length) && (decide (xs.length ≤ 24) && decide ((An.nd xs 0).di = 0)))) := Lib.hid rfl
      cases h1 : decide (2 ≤ xs.length) with
      | false =>
        have g1 : decide ((2 : Int) ≤ (xs.length : Int)) = false := decide_eq_false (by have := of_decide_eq_false h1; omega)
        have HB := hb
        go_wp2_with fail
        go_ret
        exact ⟨ret_bool (by rw [N.out, OKL.out, h1]; rfl), HB.out⟩
      | true =>
        have hL := of_decide_eq_true h1
        have g1 : decide ((2 : Int) ≤ (xs.length : Int)) = true := decide_eq_true (by omega)
        cases h2 : decide (xs.length ≤ 24) with
        | false =>
          have g2 : decide ((xs.length : Int) ≤ 24) = false := decide_eq_false (by have := of_decide_eq_false h2; omega)
          go_wp2_with fail
          go_ret
          exact ⟨ret_bool (by rw [N.out, OKL.out, h1, h2]; rfl), hb.out⟩
        | true =>
          have g2 : decide ((xs.length : Int) ≤ 24) = true := decide_eq_true (by have := of_decide_eq_true h2; omega)
          obtain ⟨b, off, cap1, hn, P⟩ := (HV.out.below hb.out).pts (by omega)
          simp only [Value.slice.injEq] at hn
          obtain ⟨rfl, -, rfl⟩ := hn
          obtain ⟨z0, z1⟩ := P.zero (by omega)
          have h0z : (0 : Int) < (xs.length : Int) := by omega
          have E : Hid (((An.nd xs 0).di == 0) = decide ((An.nd xs 0).di = 0)) := Lib.hid (by by_cases h : (An.nd xs 0).di = 0 <;> simp [h])
          clear P
          generalize (An.nd xs 0).di = d0 at *
          go_wp2_with fail
          go_ret
          exact ⟨ret_bool (by rw [N.out, OKL.out, h1, h2]; exact E.out), hb.out⟩
end Go.Proofs.Ytmieckchppfogaa

/-
  LeastStart (chapter 12), by the program. The condition, of the program's side: the variable errTooGreat holds a sentinel as errors.New makes it.
-/
import Derived.Test.YtobcflcmlejajaaDoorVoLm
import Derived.Test.YtobcflcmlejajaaDoorSrC
import Derived.Test.YtobcflcmlejajaaDoorVoN
namespace Go.Proofs.YtobcflcmlejajaaDoor
open Go.RowKit Go.Shelf
set_option linter.unusedVariables false
set_option maxRecDepth 100000

set_option maxHeartbeats 3200000 in
theorem leastLit_any (a : Addr) (i : Nat) (b1 b2 : Nat) (w : World) (v : Value) (xs : List Pat) (s goal : Int) (hv : PaSl w v xs) (hk : Vm.okS xs = true) (hi : i ≤ 100000000) (s1 : 0 ≤ s) (s2 : s ≤ 1000) (hg : goal ≤ 100000000) (hT : Tg a w)
    (c0 : w.cell? ⟨b1, 0, none⟩ = some v) (c1 : w.cell? ⟨b1, 1, none⟩ = some (.int .i64 s)) (c2 : w.cell? ⟨b2, 0, none⟩ = some (.int .i64 goal)) :
    Calls Tryd.prog 59 #[.int .i64 (i : Int), .pointer (some ⟨b1, 0, none⟩), .pointer (some ⟨b2, 0, none⟩)] w fun e w' => e = .returned (.bool (Vm.gp xs s goal i)) ∧ Below w.heap.size w w' := by
  have M := Lib.hid (masses_any a w v xs (i : Int) s hv hk (by omega) (by omega) s1 s2 hT)
  have HT := Lib.hid hT
  have K2 : Hid (∀ W, Below w.heap.size w W → W.cell? ⟨b2, 0, none⟩ = some (.int .i64 goal)) := Lib.hid (fun W hb => (hb.cell (p := ⟨b2, 0, none⟩) (World.block_lt_of_cell? w _ c2)).trans c2)
  obtain ⟨a', cap, rfl⟩ := hv.form
  have h24 := Vm.okS_len hk
  clear hv hk hT
  cases hf : Vm.fit xs (i : Int) s with
  | false =>
    have HG := Lib.hid (Vm.gp_great (goal := goal) hg hf)
    rw [hf] at M
    clear hf
    go_enter Tryd.func59, Tryd.ntmps59
    go_wp2_with fail
    refine M.out.mono ?_
    rintro e w1 ⟨he, b1'⟩
    rcases he with ⟨hno, _⟩ | ⟨_, rfl⟩
    case inl => cases hno
    have B1 := Lib.hid b1'
    have hc := (HT.out.below B1.out).cell
    clear b1'
    go_wp2_with fail
    go_quiet ((go_at_call 61; exact Calls.quiet_of_same (is_same _ _)))
    go_wp2
    go_ret
    exact ⟨ret_bool HG.out.symm, below_drewN B1.out _⟩
  | true =>
    rw [hf] at M
    clear hf
    go_enter Tryd.func59, Tryd.ntmps59
    go_wp2_with fail
    refine M.out.mono ?_
    rintro e w1 ⟨he, b1'⟩
    rcases he with ⟨_, u, rfl, o1⟩ | ⟨hno, _⟩
    case inr => cases hno
    have B1 := Lib.hid b1'
    have hc := (HT.out.below B1.out).cell
    have k2 := K2.out w1 B1.out
    obtain ⟨g, cp, rfl, -, -, hnc, hcm, hcc⟩ := own_open o1 (by rw [Vm.ms_length]; omega)
    have ck : w1.cell? ⟨g, xs.length, none⟩ = some (.int .i64 (Vm.ma xs (i : Int) s xs.length)) := by
      rw [hcc xs.length (by rw [Vm.ms_length]; omega), Vm.ms_at]
    have hcm' : cp ≤ 9223372036854775807 := by unfold maxLen at hcm; omega
    rw [Vm.ms_length]
    rw [Vm.ms_length] at hnc
    have hgp : Hid (decide (goal ≤ Vm.ma xs (i : Int) s xs.length) = Vm.gp xs s goal i) := Lib.hid rfl
    generalize Vm.ma xs (i : Int) s xs.length = q at *
    clear o1 b1' hcc hcm
    go_wp2_with fail
    go_quiet ((go_at_call 61; exact Calls.quiet_of_same (is_nil _ _)))
    go_wp2
    go_ret
    exact ⟨ret_bool hgp.out, below_drewN B1.out _⟩
set_option maxHeartbeats 3200000 in
theorem implLeastStart_any {a : Addr} (w : World) (v : Value) (xs : List Pat) (s goal : Int) (hv : PaSl w v xs) (hl : xs.length ≤ 1048576) (hT : Tg a w) :
    Calls Tryd.prog 26 #[v, .int .i64 s, .int .i64 goal] w fun e w' => e = .returned (.tuple #[.int .i64 (Vm.lsV xs s goal), .int .i64 (Vm.askC xs goal s)]) ∧ Below w.heap.size w w' := by
  have HT := Lib.hid hT
  have HV := Lib.hid hv
  have B := Lib.hid (boxN_below w goal 2)
  have K := Lib.hid (fun W (h : Below (boxN w goal 2).heap.size (boxN w goal 2) W) => boxN_kept h)
  have C := Lib.hid (partsCode_any (boxN w goal 2) v xs goal s (hv.below B.out) hl)
  obtain ⟨a', cap, rfl⟩ := hv.form
  clear hv hT
  have e0 := K.out _ (Below.refl _ _)
  by_cases hc : Vm.askC xs goal s = 0
  · obtain ⟨h1, h2⟩ := Vm.ask_0 hc
    have h24 := Vm.okS_len h1
    obtain ⟨⟨t1, t2⟩, s1, s2⟩ := Vm.lim_of h2
    have HS : Hid (∀ f, Vm.Ls (Vm.gp xs s goal) f → Vm.lsV xs s goal = (f : Int)) := Lib.hid (fun f h => Vm.ls_is h1 h2 h)
    have HGG := Lib.hid (Vm.gp_goal (goal := goal) h1 s1 s2 t1)
    obtain ⟨m, rfl⟩ : ∃ m : Nat, goal = (m : Int) := ⟨goal.toNat, by omega⟩
    have S := Lib.hid (fun W (hb : Below (boxN w (m : Int) 2).heap.size (boxN w (m : Int) 2) W) =>
      searchV_any 59 #[.pointer (some ⟨W.heap.size, 0, none⟩), .pointer (some ⟨w.heap.size, 0, none⟩)] (enters_of Tryd.func59 (by kernel_rfl) rfl) m (Vm.gp xs s (m : Int)) (boxM W (.slice a' xs.length cap) s 75) (by omega)
        (fun W2 i hW hi => leastLit_any a i W.heap.size w.heap.size W2 (.slice a' xs.length cap) xs s (m : Int) (HV.out.below (bt B.out (bt hb (bt (boxM_below W _ _ _) hW)))) h1 (by omega) s1 s2 t2 (HT.out.below (bt B.out (bt hb (bt (boxM_below W _ _ _) hW)))) (boxM_kept hW).1 (boxM_kept hW).2 (K.out W2 (bt hb (bt (boxM_below W _ _ _) hW))))
        (fun x y hxy hy hx => Vm.gp_mono hxy hx))
    rw [hc] at C ⊢
    clear hc h1 h2 HT HV
    unfold boxN at B K C S e0
    go_enter Tryd.func26, Tryd.ntmps26
    go_wp2_with fail
    refine C.out.mono ?_
    rintro e w1 ⟨rfl, b1⟩
    have S1 := Lib.hid (S.out w1 b1)
    have B1 := Lib.hid (bt B.out b1)
    have k1 := K.out w1 b1
    have BM := Lib.hid (boxM_below w1 (.slice a' xs.length cap) s 75)
    have k2 : (boxM w1 (.slice a' xs.length cap) s 75).cell? ⟨w.heap.size, 0, none⟩ = some (.int .i64 (m : Int)) := K.out _ (bt b1 BM.out)
    clear b1 S C e0
    unfold boxM at S1 BM k2
    go_wp2_with fail
    refine S1.out.mono ?_
    rintro e w2 ⟨f, hf, rfl, q1, q2, b2⟩
    have B2 := Lib.hid (bt B1.out (bt BM.out b2))
    have HR : Hid (Vm.lsV xs s (m : Int) = (f : Int)) := Lib.hid (HS.out f ⟨by
      rcases Nat.lt_or_ge f m with h | h
      · exact q2 f (Nat.le_refl _) h
      · have e : f = m := by omega
        have := HGG.out
        rw [e]; simpa using this, q1⟩)
    clear b2 q1 q2 S1 HS HGG
    go_wp2_with fail
    go_ret2
    exact ⟨ret_ii HR.out.symm rfl, B2.out⟩
  · have HR := Lib.hid (Vm.ask_vl hc)
    have hcb : (Vm.askC xs goal s != 0) = true := by rw [bne_iff_ne]; exact hc
    generalize Vm.askC xs goal s = c at *
    clear hc
    unfold boxN at B K C e0
    go_enter Tryd.func26, Tryd.ntmps26
    go_wp2_with fail
    refine C.out.mono ?_
    rintro e w1 ⟨rfl, b1⟩
    have B1 := Lib.hid (bt B.out b1)
    clear b1
    go_wp2_with fail
    go_ret2
    exact ⟨ret_ii HR.out.symm rfl, B1.out⟩
end Go.Proofs.YtobcflcmlejajaaDoor

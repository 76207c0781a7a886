/-
  LeastStart (chapter 12), by the model and by the program. The condition, of the program's side: the variable errTooGreat holds a sentinel as errors.New makes it.
-/
import Derived.Test.YtobcflcmlejajaaDoorVoLm
import Derived.Test.YtobcflcmlejajaaDoorSrC
import Derived.Test.YtobcflcmlejajaaDoorVoN
namespace Go.Proofs.YtobcflcmlejajaaDoor
open Go.RowKit Go.Shelf
set_option linter.unusedVariables false
set_option maxRecDepth 100000

set_option maxHeartbeats 6400000 in
theorem specLeastStart_any (w : World) (v : Value) (xs : List Pat) (s goal : Int) (hv : PaSl w v xs) (hl : xs.length ≤ 1048576) :
    Calls Tryd.prog 25 #[v, .int .i64 s, .int .i64 goal] w fun e w' => e = .returned (.tuple #[.int .i64 (Vm.lsV xs s goal), .int .i64 (Vm.askC xs goal s)]) ∧ Below w.heap.size w w' := by
  have C := Lib.hid (l12Ask_any w v xs goal s hv hl)
  have G := Lib.hid (fun h1 h4 h5 W (hb : Below w.heap.size w W) t t1 t2 => l12Growth_any W v xs t s (hv.below hb) hl h1 t1 t2 h4 h5)
  obtain ⟨a, cap, rfl⟩ := hv.form
  clear hv
  by_cases hc : Vm.askC xs goal s = 0
  · obtain ⟨h1, h2⟩ := Vm.ask_0 hc
    have h24 := Vm.okS_len h1
    obtain ⟨⟨t1, t2⟩, s1, s2⟩ := Vm.lim_of h2
    have HS : Hid (∀ f, Vm.Ls (Vm.gp xs s goal) f → Vm.lsV xs s goal = (f : Int)) := Lib.hid (fun f h => Vm.ls_is h1 h2 h)
    rw [hc] at C ⊢
    clear hc
    by_cases hn : xs.length = 0
    · have HR : Hid (Vm.lsV xs s goal = goal) := Lib.hid (by rw [HS.out _ (Vm.gp_nil hn t1)]; omega)
      have hnb : ((xs.length : Int) == 0) = true := by rw [beq_iff_eq]; omega
      clear hn h1 h2 G
      go_enter Tryd.func25, Tryd.ntmps25
      go_wp2_with fail
      refine C.out.mono ?_
      rintro e w1 ⟨rfl, rfl⟩
      go_wp2_with fail
      go_ret2
      exact ⟨ret_ii HR.out.symm rfl, Below.refl _ _⟩
    · have hnb : ((xs.length : Int) == 0) = false := beq_eq_false_iff_ne.2 (by omega)
      have HG := Lib.hid (G.out h1 s1 s2)
      have H0 : Hid (Vm.gpI xs s goal 100000000 = true) := Lib.hid (Vm.gpI_top h1 s1 s2 (by decide) t2)
      have HD : Hid (∃ d, xs.length = d + 1) := Lib.hid ⟨xs.length - 1, by omega⟩
      clear hn h1 h2 G
      go_enter Tryd.func25, Tryd.ntmps25
      go_wp2_with fail
      refine C.out.mono ?_
      rintro e w1 ⟨rfl, rfl⟩
      go_wp2_with fail
      go_loopw [9, 10] (fun l h wr => ∃ (z y : Int), l = .int .i64 z ∧ h = .int .i64 y ∧ -1 ≤ z ∧ z < y ∧ y ≤ 100000000 ∧ Hid (∀ j : Int, j ≤ z → 0 ≤ j → Vm.gpI xs s goal j = false) ∧ Hid (Vm.gpI xs s goal y = true) ∧ Hid (Below w.heap.size w wr)) (fun l h _ => (intOf h - intOf l).toNat)
      case atStart => exact ⟨-1, 100000000, rfl, rfl, by omega, by omega, by omega, Lib.hid (fun j h1 h2 => by omega), H0, Lib.hid (Below.refl _ _)⟩
      case round =>
        obtain ⟨z, y, rfl, rfl, z1, z2, y2, hlo, hhi, hbw⟩ := hrel
        by_cases hlt : 1 < y - z
        · obtain ⟨m, hm⟩ : ∃ m : Int, (z + y) / 2 = m := ⟨_, rfl⟩
          have hmt : (z + y).tdiv 2 = m := by rw [Int.tdiv_eq_ediv_of_nonneg (by omega)]; exact hm
          have m1 : z < m := by omega
          have m2 : m < y := by omega
          have hzy : Hid (wrap64 (z + y) = z + y) := Lib.hid (IntWalk.wrap64_in _ ⟨by omega, by omega⟩)
          have G1 := Lib.hid (HG.out wr hbw.out m (by omega) (by omega))
          clear hm
          cases hf : Vm.fit xs m s with
          | false =>
            have hg := Lib.hid (Vm.gpI_great (goal := goal) t2 hf)
            rw [hf, Vm.grL_f hf] at G1
            clear hf hhi
            go_wp2_with fail
            refine G1.out.mono ?_
            rintro e w2 ⟨u, rfl, o2, b2⟩
            have B2 := Lib.hid (bt hbw.out b2)
            clear o2 b2 hbw G1 hmt
            go_wp2_with fail
            exact ⟨⟨z, m, rfl, rfl, z1, m1, by omega, hlo, hg, B2⟩, by simp only [intOf]; omega⟩
          | true =>
            rw [hf, Vm.grL_t hf] at G1
            clear hf
            go_wp2_with fail
            refine G1.out.mono ?_
            rintro e w2 ⟨u, rfl, o2, b2⟩
            have B2 := Lib.hid (bt hbw.out b2)
            obtain ⟨d, hd⟩ := HD.out
            obtain ⟨g, c1, rfl, -, -, hnc, hcm, hcc⟩ := own_open o2 (by rw [Vm.gr_length]; omega)
            have ck : w2.cell? ⟨g, d, none⟩ = some (.int .i64 (Vm.ma xs m s xs.length)) := by
              rw [hcc d (by rw [Vm.gr_length]; omega), Vm.gr_at, ← hd]
            have hcm' : c1 ≤ 9223372036854775807 := by unfold maxLen at hcm; omega
            have hgl := Vm.gr_length xs m s xs.length
            rw [hgl] at hnc ⊢
            have hdn : (xs.length : Int) - 1 = (d : Int) := by omega
            have hgp : Hid (Vm.gpI xs s goal m = decide (goal ≤ Vm.ma xs m s xs.length)) := Lib.hid rfl
            generalize Vm.ma xs m s xs.length = q at *
            have hd2 : d < xs.length := by omega
            have hd3 : (d : Int) < (xs.length : Int) := by omega
            clear o2 b2 hbw G1 hcc hcm hmt hgl hd
            by_cases hq : goal ≤ q
            · have hg : Hid (Vm.gpI xs s goal m = true) := Lib.hid (by rw [hgp.out]; exact decide_eq_true hq)
              clear hgp hhi
              go_wp2_with fail
              exact ⟨⟨z, m, rfl, rfl, z1, m1, by omega, hlo, hg, B2⟩, by simp only [intOf]; omega⟩
            · have hg : Hid (∀ j : Int, j ≤ m → 0 ≤ j → Vm.gpI xs s goal j = false) := Lib.hid (fun j hj hj0 => by
                rw [Bool.eq_false_iff]; intro hc
                have := Vm.gpI_mono hj hc
                rw [hgp.out] at this
                exact hq (of_decide_eq_true this))
              clear hgp hlo
              go_wp2_with fail
              exact ⟨⟨m, y, rfl, rfl, by omega, m2, y2, hg, hhi, B2⟩, by simp only [intOf]; omega⟩
        · have HR : Hid (Vm.lsV xs s goal = y) := Lib.hid (by
            rw [HS.out _ (Vm.gpI_is (y := y) (by omega) hhi.out (fun j h1 h2 => hlo.out j (by omega) h1))]; omega)
          clear hlo hhi HS
          go_wp2_with fail
          go_ret2
          exact ⟨ret_ii HR.out.symm rfl, hbw.out⟩
  · have HR := Lib.hid (Vm.ask_vl hc)
    have hcb : (Vm.askC xs goal s != 0) = true := by rw [bne_iff_ne]; exact hc
    generalize Vm.askC xs goal s = c at *
    clear hc G
    go_enter Tryd.func25, Tryd.ntmps25
    go_wp2_with fail
    refine C.out.mono ?_
    rintro e w1 ⟨rfl, rfl⟩
    go_wp2_with fail
    go_ret2
    exact ⟨ret_ii HR.out.symm rfl, Below.refl _ _⟩
end Go.Proofs.YtobcflcmlejajaaDoor

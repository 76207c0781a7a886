/-
  Numbers that strictly increase, by the program; indices below a count; the code of an ordered list. No condition of its own.
-/
import Derived.Test.YtaldmdammipfjaaDoorRlA
import Derived.OwnWalk
namespace Go.Proofs.YtaldmdammipfjaaDoor
open Go.RowKit Go.Shelf
set_option linter.unusedVariables false
set_option maxRecDepth 100000
theorem latI_keep (g : Nat) (y x : Int) (ex : Bool) (u : FrameMode) (w : World) (h : Whole w g 152 #[.int .i64 y, .bool ex]) :
    CallsD Tryd.prog 144 #[.pointer (some ⟨g, 0, none⟩), .int .i64 x] u w fun e u' w' => u' = u ∧ (e = .returned (.tuple #[]) ∧ Whole w' g 152 #[.int .i64 x, .bool true] ∧ w.grownBy w' (some g)) := by
  have c0 := h.at_ 0
  have c1 := h.at_ 1
  have f0 := h.free 0
  have f1 := h.free 1
  have H := Lib.hid ((h.put 0 (.int .i64 x)).put 1 (.bool true))
  have G := Lib.hid (only_setCell (p := ⟨g, 1, none⟩) (only_setCell (p := ⟨g, 0, none⟩) (World.grownBy.refl w (some g)) rfl (.int .i64 x)) rfl (.bool true))
  simp at c0 c1
  clear h
  go_enter_d Tryd.func144, Tryd.ntmps144
  go_wp2
  go_end0
  exact ⟨rfl, by simpa using H.out, G.out⟩
set_option maxHeartbeats 800000 in
theorem latI_pass (g : Nat) (y x : Int) (ex : Bool) (w : World) (h : Whole w g 152 #[.int .i64 y, .bool ex]) :
    Calls Tryd.prog 114 #[.pointer (some ⟨g, 0, none⟩), .int .i64 x] w fun e w' => e = .returned (.tuple #[.int .i64 y, .bool ex]) ∧ Whole w' g 152 #[.int .i64 x, .bool true] ∧ w.grownBy w' (some g) := by
  have c0 := h.at_ 0
  have c1 := h.at_ 1
  have H := Lib.hid h
  simp at c0 c1
  clear h
  go_enter_defers Tryd.func114, Tryd.ntmps114
  go_wp2
  go_quiet (fail)
  go_wp2
  refine leaves_cons (f := 144) (args := #[.pointer (some ⟨g, 0, none⟩), .int .i64 x]) (by simp) (by simp [go_sem]) ?_
  refine (latI_keep g y x ex .returning _ (H.out.drewN _)).mono ?_
  rintro e u' w'' ⟨rfl, rfl, h1, h2⟩
  exact ⟨_, results_tmp2 rfl _ _ _, rfl, h1, ⟨h2.os, h2.tape, h2.output, h2.size, h2.block⟩⟩
theorem itselfR_any (x : Int) (w : World) : Calls Tryd.prog 81 #[.int .i64 x] w fun e w' => e = .returned (.int .i64 x) ∧ w = w' := by
  go_enter Tryd.func81, Tryd.ntmps81
  go_wp2
  go_ret
  exact ⟨rfl, rfl⟩
set_option maxHeartbeats 1600000 in
theorem increasingI_any (w : World) (v : Value) (xs : List Int) (hv : Sl w v xs) (hl : xs.length ≤ 1048576) :
    Calls Tryd.prog 80 #[v, .func (.func 81) #[] #[]] w fun e w' => e = .returned (.bool (Rl.up none xs)) ∧ Below w.heap.size w w' := by
  have eg := enters_of Tryd.func81 (by kernel_rfl) rfl
  obtain ⟨a, cap, rfl⟩ := hv.form
  have HV := Lib.hid hv
  have W0 := Lib.hid (Whole.new w 152 #[.int .i64 0, .bool false])
  have B0 := Lib.hid ((Below.refl w.heap.size w).alloc (Nat.le_refl _) (.cells #[.int .i64 0, .bool false] 152))
  clear hv
  go_enter Tryd.func80, Tryd.ntmps80
  go_wp2
  go_loopw [13] (fun i wr => ∃ (k : Nat) (y : Int) (ex : Bool), k ≤ xs.length ∧ i = .int .i64 k ∧ Hid (Whole wr w.heap.size 152 #[.int .i64 y, .bool ex]) ∧ Hid (Below w.heap.size w wr) ∧ Hid (Rl.up none (xs.take k) = true) ∧ Hid ((ex = false ∧ k = 0) ∨ (ex = true ∧ 0 < k ∧ some y = Rl.la none (xs.take k)))) (fun i _ => xs.length - (intOf i).toNat)
  case atStart => exact ⟨0, 0, false, Nat.zero_le _, rfl, W0, B0, Lib.hid rfl, Lib.hid (Or.inl ⟨rfl, rfl⟩)⟩
  case round =>
    obtain ⟨k, y, ex, hk, rfl, hW, hb, hu, hx⟩ := hrel
    by_cases hlt : k < xs.length
    · have hltz : (k : Int) < (xs.length : Int) := by omega
      obtain ⟨b, off, cap1, hn, hbl, hcc⟩ := (HV.out.below hb.out).atI hlt
      simp only [Value.slice.injEq] at hn
      obtain ⟨rfl, -, rfl⟩ := hn
      have c0 := hcc k hlt
      have C := fun W => Lib.hid (itselfR_any xs[k] W)
      clear hcc
      go_wp2_with fail
      refine (C _).out.mono ?_
      rintro e w1 ⟨rfl, rfl⟩
      clear c0
      go_wp2_with fail
      refine (latI_pass _ _ _ _ _ hW.out).mono ?_
      rintro e w2 ⟨rfl, h2, g2⟩
      have hW2 := Lib.hid h2
      have hb2 := Lib.hid (below_only hb.out g2 (Nat.le_refl _) hb.out.size)
      clear h2 g2 hW hb
      rcases hx.out with ⟨rfl, rfl⟩ | ⟨rfl, h0, hy⟩
      · have hu2 : Hid (Rl.up none (xs.take (0 + 1)) = true) := Lib.hid (Rl.up_one hlt)
        have hl2 : Hid (some xs[0] = Rl.la none (xs.take (0 + 1))) := Lib.hid (Rl.la_take none hlt).symm
        clear hu hx
        go_wp2_with fail
        exact ⟨⟨1, xs[0], true, by omega, by go_num, hW2, hb2, hu2, Lib.hid (Or.inr ⟨rfl, by omega, hl2.out⟩)⟩, by simp only [intOf]; omega⟩
      · have hl2 : Hid (some xs[k] = Rl.la none (xs.take (k + 1))) := Lib.hid (Rl.la_take none hlt).symm
        have HU : Hid (Rl.up none (xs.take (k + 1)) = decide (y < xs[k])) := Lib.hid (by rw [Rl.up_snoc hlt, hu.out, ← hy]; rfl)
        clear hy hx h0
        by_cases ht : y < xs[k]
        · have hu2 : Hid (Rl.up none (xs.take (k + 1)) = true) := Lib.hid (by rw [HU.out]; exact decide_eq_true ht)
          have hle : decide (xs[k] ≤ y) = false := decide_eq_false (by omega)
          clear HU
          generalize xs[k] = q at *
          go_wp2_with fail
          exact ⟨⟨k + 1, q, true, by omega, by go_num, hW2, hb2, hu2, Lib.hid (Or.inr ⟨rfl, by omega, hl2.out⟩)⟩, by simp only [intOf]; omega⟩
        · have hn : Hid (Rl.up none xs = false) := Lib.hid (Rl.up_no (by rw [HU.out]; exact decide_eq_false ht))
          have hle : decide (xs[k] ≤ y) = true := decide_eq_true (by omega)
          clear HU hl2
          generalize xs[k] = q at *
          go_wp2_with fail
          go_ret
          exact ⟨ret_bool hn.out.symm, hb2.out⟩
    · have hltz : ¬ (k : Int) < (xs.length : Int) := by omega
      have hkz : k = xs.length := by omega
      have hn : Hid (Rl.up none xs = true) := Lib.hid (by have := hu.out; rw [hkz, List.take_length] at this; exact this)
      clear hkz
      go_wp2
      go_ret
      exact ⟨ret_bool hn.out.symm, hb.out⟩
set_option maxHeartbeats 400000 in
theorem outI_any (w W : World) (b : Nat) (n x : Int) (h0 : 0 ≤ n) (hn : n ≤ 1048576) (hc : w.cell? ⟨b, 0, none⟩ = some (.int .i64 n)) (hW : Below w.heap.size w W) :
    Calls Tryd.prog 78 (#[.int .i64 x] ++ #[.pointer (some ⟨b, 0, none⟩)]) W fun e w' => e = .returned (.bool (!Ar.inB 0 x (n - 1))) ∧ Below w.heap.size w w' := by
  have C := Lib.hid (within_any x 0 (n - 1) W)
  have HW := Lib.hid hW
  have x0 : W.cell? ⟨b, 0, none⟩ = some (.int .i64 n) := (hW.cell (p := ⟨b, 0, none⟩) (World.block_lt_of_cell? w _ hc)).trans hc
  have hw1 : IntKind.i64.wrap (n - 1) = n - 1 := IntWalk.i64_in _ ⟨by omega, by omega⟩
  clear hW hc
  go_enter Tryd.func78, Tryd.ntmps78
  go_wp2_with fail
  refine C.out.mono ?_
  rintro e w1 ⟨rfl, rfl⟩
  go_wp2_with fail
  go_ret
  exact ⟨rfl, HW.out⟩
set_option maxHeartbeats 1600000 in
theorem areIndices_any (w : World) (v : Value) (xs : List Int) (n : Int) (h0 : 0 ≤ n) (hn : n ≤ 1048576) (hv : Sl w v xs) (hl : xs.length ≤ 1048576) :
    Calls Tryd.prog 43 #[v, .int .i64 n] w fun e w' => e = .returned (.bool (Rl.ri 0 (n - 1) xs)) ∧ Below w.heap.size w w' := by
  have HB := Lib.hid ((Below.refl w.heap.size w).alloc (Nat.le_refl _) (.cells #[.int .i64 n] 3))
  have C1 := Lib.hid (increasingI_any (w.alloc (.cells #[.int .i64 n] 3)) v xs (hv.below HB.out) hl)
  have KC : Hid (∀ W, Below (w.alloc (.cells #[.int .i64 n] 3)).heap.size (w.alloc (.cells #[.int .i64 n] 3)) W → W.cell? ⟨w.heap.size, 0, none⟩ = some (.int .i64 n)) := Lib.hid (fun W h => ((Whole.new w 3 #[.int .i64 n]).all h).at_ 0)
  have CF := Lib.hid (fun W (h : Below (w.alloc (.cells #[.int .i64 n] 3)).heap.size (w.alloc (.cells #[.int .i64 n] 3)) W) => containsFuncI_any 78 #[.pointer (some ⟨w.heap.size, 0, none⟩)] (enters_of Tryd.func78 (by kernel_rfl) rfl) (fun x => !Ar.inB 0 x (n - 1)) W v xs hl (hv.below (bt HB.out h)) (fun x W' hW => outI_any W W' w.heap.size n x h0 hn (KC.out W h) hW))
  have E := Lib.hid (Rl.ri_eq 0 (n - 1) xs)
  clear hv
  cases hu : Rl.up none xs with
  | false =>
    rw [hu] at C1 E
    rw [Bool.false_and] at E
    clear hu
    go_enter Tryd.func43, Tryd.ntmps43
    go_wp2_with fail
    refine C1.out.mono ?_
    rintro e w1 ⟨rfl, b1⟩
    have B1 := Lib.hid (bt HB.out b1)
    clear b1
    go_wp2_with fail
    go_ret
    exact ⟨ret_bool E.out, B1.out⟩
  | true =>
    rw [hu] at C1 E
    rw [Bool.true_and] at E
    clear hu
    generalize (xs.any fun x => !Ar.inB 0 x (n - 1)) = q at *
    go_enter Tryd.func43, Tryd.ntmps43
    go_wp2_with fail
    refine C1.out.mono ?_
    rintro e w1 ⟨rfl, b1⟩
    have N1 := Lib.hid b1
    clear b1
    go_wp2_with fail
    refine (CF.out _ N1.out).mono ?_
    rintro e w2 ⟨rfl, b2⟩
    have B2 := Lib.hid (bt (bt HB.out N1.out) b2)
    clear b2
    go_wp2_with fail
    go_ret
    exact ⟨ret_bool E.out, B2.out⟩
/-- the code of an ordered list -/
def odC (a b o : Bool) : Int := Cd.cd a b (if o then 0 else 7)
set_option maxHeartbeats 1600000 in
theorem orderedCode_any (a b o : Bool) (w : World) : Calls Tryd.prog 41 #[.bool a, .bool b, .bool o] w fun e w' => e = .returned (.int .i64 (odC a b o)) ∧ w = w' := by
  have C := Lib.hid (statedCd_any a b w)
  unfold odC
  cases a with
  | false =>
    rw [Cd.cd_f] at C
    rw [Cd.cd_f]
    go_enter Tryd.func41, Tryd.ntmps41
    go_wp2_with fail
    refine C.out.mono ?_
    rintro e w1 ⟨rfl, rfl⟩
    go_wp2_with fail
    go_ret
    exact ⟨rfl, rfl⟩
  | true =>
    cases b with
    | false =>
      rw [Cd.cd_tf] at C
      rw [Cd.cd_tf]
      go_enter Tryd.func41, Tryd.ntmps41
      go_wp2_with fail
      refine C.out.mono ?_
      rintro e w1 ⟨rfl, rfl⟩
      go_wp2_with fail
      go_ret
      exact ⟨rfl, rfl⟩
    | true =>
      rw [Cd.cd_t] at C
      rw [Cd.cd_t]
      cases o with
      | false =>
        go_enter Tryd.func41, Tryd.ntmps41
        go_wp2_with fail
        refine C.out.mono ?_
        rintro e w1 ⟨rfl, rfl⟩
        go_wp2_with fail
        go_ret
        exact ⟨rfl, rfl⟩
      | true =>
        go_enter Tryd.func41, Tryd.ntmps41
        go_wp2_with fail
        refine C.out.mono ?_
        rintro e w1 ⟨rfl, rfl⟩
        go_wp2_with fail
        go_ret
        exact ⟨rfl, rfl⟩
end Go.Proofs.YtaldmdammipfjaaDoor

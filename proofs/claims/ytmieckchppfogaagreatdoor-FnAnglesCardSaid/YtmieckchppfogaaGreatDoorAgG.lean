/-
  When a path is valid, by the program; what a question about a path is told (chapter 14). No condition of its own.
-/
import Derived.Test.YtmieckchppfogaaGreatDoorAgB
import Derived.Test.YtmieckchppfogaaGreatDoorRlB
namespace Go.Proofs.YtmieckchppfogaaGreatDoor
open Go.RowKit Go.Shelf
set_option linter.unusedVariables false
set_option maxRecDepth 100000

set_option maxHeartbeats 400000 in
theorem withinInt_any (x l h : Int) (w : World) : Calls Tryz.prog 54 #[.int .i64 x, .int .i64 l, .int .i64 h] w fun e w' => e = .returned (.bool (Ar.inB l x h)) ∧ w = w' := by
  unfold Ar.inB
  by_cases h1 : l ≤ x
  · go_enter Tryz.func54, Tryz.ntmps54
    go_wp2
    go_ret
    exact ⟨ret_bool (by simp [h1]), rfl⟩
  · go_enter Tryz.func54, Tryz.ntmps54
    go_wp2
    go_ret
    exact ⟨ret_bool (by have e : decide (l ≤ x) = false := decide_eq_false (by omega); rw [e]; rfl), rfl⟩
set_option maxHeartbeats 800000 in
theorem isWrongPth_any (x : Pth) (w : World) :
    Calls Tryz.prog 56 #[.agg #[.int .i64 x.di, .int .i64 x.he]] w fun e w' => e = .returned (.bool (!An.inP x)) ∧ Below w.heap.size w w' := by
  unfold An.inP
  have C := Lib.hid (fun a b c W => within_any a b c W)
  have B0 := Lib.hid ((Below.refl w.heap.size w).alloc (Nat.le_refl _) (.cells #[.int .i64 x.di, .int .i64 x.he] 36))
  generalize x.di = d at *
  generalize x.he = y at *
  cases h1 : Ar.inB 0 d 20000 with
  | false =>
    have C1 := Lib.hid (C.out d 0 20000)
    rw [h1] at C1
    clear h1
    go_enter Tryz.func56, Tryz.ntmps56
    go_wp2_with fail
    refine (C1.out _).mono ?_
    rintro e w1 ⟨rfl, rfl⟩
    go_wp2_with fail
    go_ret
    exact ⟨rfl, B0.out⟩
  | true =>
    have C1 := Lib.hid (C.out d 0 20000)
    have C2 := Lib.hid (C.out y 0 9000)
    rw [h1] at C1
    clear h1
    go_enter Tryz.func56, Tryz.ntmps56
    go_wp2_with fail
    refine (C1.out _).mono ?_
    rintro e w1 ⟨rfl, rfl⟩
    go_wp2_with fail
    refine (C2.out _).mono ?_
    rintro e w1 ⟨rfl, rfl⟩
    go_wp2_with fail
    go_ret
    exact ⟨ret_bool (by rw [Bool.true_and]), B0.out⟩
theorem distance_any (x : Pth) (w : World) :
    Calls Tryz.prog 59 #[.agg #[.int .i64 x.di, .int .i64 x.he]] w fun e w' => e = .returned (.int .i64 x.di) ∧ Below w.heap.size w w' := by
  have B0 := Lib.hid ((Below.refl w.heap.size w).alloc (Nat.le_refl _) (.cells #[.int .i64 x.di, .int .i64 x.he] 36))
  go_enter Tryz.func59, Tryz.ntmps59
  go_wp2_with fail
  go_ret
  exact ⟨rfl, B0.out⟩
set_option maxHeartbeats 800000 in
theorem isHigher_any (x : Pth) (w : World) (g b off cap : Nat) (xs : List Pth) (h0 : 0 < xs.length) (hc : w.cell? ⟨g, 0, none⟩ = some (.slice (some ⟨b, off, none⟩) xs.length cap)) (P : PtAt w b off xs) :
    Calls Tryz.prog 57 (#[.agg #[.int .i64 x.di, .int .i64 x.he]] ++ #[.pointer (some ⟨g, 0, none⟩)]) w fun e w' => e = .returned (.bool (decide ((An.nd xs 0).he < x.he))) ∧ Below w.heap.size w w' := by
  obtain ⟨z0, z1⟩ := P.zero h0
  have hz : (0 : Int) < (xs.length : Int) := by omega
  have hbl : b < w.heap.size := World.block_lt_of_cell? w _ z0
  have hgl : g < w.heap.size := World.block_lt_of_cell? w _ hc
  have B0 := Lib.hid (fun n => below_drewN ((Below.refl w.heap.size w).alloc (Nat.le_refl _) (.cells #[.int .i64 x.di, .int .i64 x.he] 36)) n)
  clear P
  generalize (An.nd xs 0).he = y0 at *
  generalize (An.nd xs 0).di = d0 at *
  go_enter Tryz.func57, Tryz.ntmps57
  go_wp2_with fail
  go_quiet (fail)
  go_wp2_with fail
  go_ret
  exact ⟨rfl, B0.out _⟩
namespace An
theorem up_t {xs : List Pth} (h : ∀ j, j + 1 < xs.length → (nd xs j).di < (nd xs (j + 1)).di) : up xs = true := all_rng.2 (fun k hk => decide_eq_true (h k (by omega)))
theorem up_f {xs : List Pth} {j : Nat} (hj : j + 1 < xs.length) (h : ¬ (nd xs j).di < (nd xs (j + 1)).di) : up xs = false := by
  rw [Bool.eq_false_iff]; intro hc
  exact h (of_decide_eq_true (all_rng.1 hc j (by omega)))
end An
set_option maxHeartbeats 1600000 in
theorem increasingP_any (w : World) (b off cap : Nat) (xs : List Pth) (P : PtAt w b off xs) (h0 : 0 < xs.length) (hl : xs.length ≤ 1048576) :
    Calls Tryz.prog 58 #[.slice (some ⟨b, off, none⟩) xs.length cap, .func (.func 59) #[] #[]] w fun e w' => e = .returned (.bool (An.up xs)) ∧ Below w.heap.size w w' := by
  have eg := enters_of Tryz.func59 (by kernel_rfl) rfl
  have HP := Lib.hid (fun W (hb : Below w.heap.size w W) => PtAt.below P hb)
  have W0 := Lib.hid (Whole.new w 105 #[.int .i64 0, .bool false])
  have B0 := Lib.hid ((Below.refl w.heap.size w).alloc (Nat.le_refl _) (.cells #[.int .i64 0, .bool false] 105))
  clear P h0
  go_enter Tryz.func58, Tryz.ntmps58
  go_wp2
  go_loopw [13] (fun i wr => ∃ (k : Nat) (y : Int) (ex : Bool), k ≤ xs.length ∧ i = .int .i64 k ∧ Hid (Whole wr w.heap.size 105 #[.int .i64 y, .bool ex]) ∧ Hid (Below w.heap.size w wr) ∧ Hid (∀ j, j + 1 < k → (An.nd xs j).di < (An.nd xs (j + 1)).di) ∧ Hid ((ex = false ∧ k = 0) ∨ (ex = true ∧ ∃ m, k = m + 1 ∧ y = (An.nd xs m).di))) (fun i _ => xs.length - (intOf i).toNat)
  case atStart => exact ⟨0, 0, false, Nat.zero_le _, rfl, W0, B0, Lib.hid (fun j hj => by omega), Lib.hid (Or.inl ⟨rfl, rfl⟩)⟩
  case round =>
    obtain ⟨k, y, ex, hk, rfl, hW, hb, hu, hx⟩ := hrel
    by_cases hlt : k < xs.length
    · have hltz : (k : Int) < (xs.length : Int) := by omega
      obtain ⟨c0, c1⟩ := HP.out wr hb.out k hlt
      have C := Lib.hid (fun W => distance_any (An.nd xs k) W)
      have WA := Lib.hid (fun W (hB : Below (wr.alloc (.cells #[.int .i64 (An.nd xs k).di, .int .i64 (An.nd xs k).he] 36)).heap.size (wr.alloc (.cells #[.int .i64 (An.nd xs k).di, .int .i64 (An.nd xs k).he] 36)) W) => Whole.all (hW.out.alloc (.cells #[.int .i64 (An.nd xs k).di, .int .i64 (An.nd xs k).he] 36)) hB)
      have BA := Lib.hid (bt hb.out ((Below.refl wr.heap.size wr).alloc (Nat.le_refl _) (.cells #[.int .i64 (An.nd xs k).di, .int .i64 (An.nd xs k).he] 36)))
      have hN := Lib.hid (fun (j : Nat) (hj : j + 1 = k) (h : ¬ (An.nd xs j).di < (An.nd xs k).di) => An.up_f (xs := xs) (j := j) (by omega) (by rw [hj]; exact h))
      have hY := Lib.hid (fun (h : ∀ j, j + 1 = k → (An.nd xs j).di < (An.nd xs k).di) => Lib.hid (fun j (hj : j + 1 < k + 1) => (by
        rcases Nat.lt_or_ge (j + 1) k with h1 | h1
        · exact hu.out j h1
        · have e : j + 1 = k := by omega
          have := h j e
          rw [← e] at this; rw [e] at this ⊢; exact this : (An.nd xs j).di < (An.nd xs (j + 1)).di)))
      have hL : Hid (∃ m, k + 1 = m + 1 ∧ (An.nd xs k).di = (An.nd xs m).di) := Lib.hid ⟨k, rfl, rfl⟩
      have HM := Lib.hid hx.out
      clear hx hu
      generalize (An.nd xs k).di = d at *
      generalize (An.nd xs k).he = yy at *
      go_wp2_with fail
      refine (C.out _).mono ?_
      rintro e w1 ⟨rfl, b1⟩
      have hW1 := Lib.hid (WA.out _ b1)
      have hb1 := Lib.hid (bt BA.out b1)
      clear b1 c0 c1 WA BA C
      go_wp2_with fail
      refine (latI_pass _ _ _ _ _ hW1.out).mono ?_
      rintro e w2 ⟨rfl, h2, g2⟩
      have hW2 := Lib.hid h2
      have hb2 := Lib.hid (below_only hb1.out g2 (Nat.le_refl _) hb1.out.size)
      clear h2 g2 hW hb hW1 hb1
      rcases HM.out with ⟨rfl, hk0⟩ | ⟨rfl, m, hm, hy⟩
      · have hu2 := hY.out (fun j hj => by omega)
        clear HM hN hY hk0
        go_wp2_with fail
        exact ⟨⟨k + 1, d, true, by omega, by go_num, hW2, hb2, hu2, Lib.hid (Or.inr ⟨rfl, hL.out⟩)⟩, by simp only [intOf]; omega⟩
      · by_cases ht : y < d
        · have hle : decide (d ≤ y) = false := decide_eq_false (by omega)
          have hu2 := hY.out (fun j hj => by have : j = m := by omega
                                             rw [this, ← hy]; exact ht)
          clear HM hN hY hm hy ht
          go_wp2_with fail
          exact ⟨⟨k + 1, d, true, by omega, by go_num, hW2, hb2, hu2, Lib.hid (Or.inr ⟨rfl, hL.out⟩)⟩, by simp only [intOf]; omega⟩
        · have hle : decide (d ≤ y) = true := decide_eq_true (by omega)
          have hn : Hid (An.up xs = false) := Lib.hid (hN.out m hm.symm (by have := hy; omega))
          clear HM hN hY hm hy ht
          go_wp2_with fail
          go_ret
          exact ⟨ret_bool hn.out.symm, hb2.out⟩
    · have hltz : ¬ (k : Int) < (xs.length : Int) := by omega
      have hn : Hid (An.up xs = true) := Lib.hid (An.up_t (fun j hj => hu.out j (by omega)))
      go_wp2
      go_ret
      exact ⟨ret_bool hn.out.symm, hb.out⟩
set_option maxHeartbeats 3200000 in
theorem implValidPath_any (w : World) (v : Value) (xs : List Pth) (hv : PpSl w v xs) (hl : xs.length ≤ 1048576) :
    Calls Tryz.prog 31 #[v] w fun e w' => e = .returned (.bool (An.okB xs)) ∧ Below w.heap.size w w' := by
  obtain ⟨a, cap, rfl⟩ := hv.form
  have CW := Lib.hid (fun W => withinInt_any (xs.length : Int) 2 24 W)
  obtain ⟨W1, hW1⟩ : ∃ W, W = w.alloc (.cells #[.slice a xs.length cap] 24) := ⟨_, rfl⟩
  have HB : Hid (Below w.heap.size w W1) := Lib.hid (by rw [hW1]; exact (Below.refl _ _).alloc (Nat.le_refl _) _)
  have HK : Hid (∀ W, Below W1.heap.size W1 W → W.cell? ⟨w.heap.size, 0, none⟩ = some (.slice a xs.length cap)) := Lib.hid (fun W h => by
    have := (Whole.new w 24 #[.slice a xs.length cap])
    rw [← hW1] at this
    exact (this.all h).at_ 0)
  have CF := Lib.hid (fun W (hb : Below w.heap.size w W) => containsFuncPth_any 56 #[] (enters_of Tryz.func56 (by kernel_rfl) rfl) (fun x => !An.inP x) W (.slice a xs.length cap) xs hl (hv.below hb) (fun x V hV => (isWrongPth_any x V).mono fun _ _ ⟨h, b⟩ => ⟨h, bt hV b⟩))
  have c0 := HK.out W1 (Below.refl _ _)
  subst hW1
  by_cases hlen : 2 ≤ xs.length ∧ xs.length ≤ 24
  · obtain ⟨h2, h24⟩ := hlen
    have hin : Ar.inB 2 (xs.length : Int) 24 = true := Ar.inB_t (by omega) (by omega)
    rw [hin] at CW
    cases hw : (xs.any fun x => !An.inP x) with
    | true =>
      have hN := Lib.hid (An.okB_wrong hw)
      rw [hw] at CF
      clear hw hin hv
      go_enter Tryz.func31, Tryz.ntmps31
      go_wp2_with fail
      refine (CW.out _).mono ?_
      rintro e w2 ⟨rfl, rfl⟩
      go_wp2_with fail
      refine (CF.out _ HB.out).mono ?_
      rintro e w3 ⟨rfl, b3⟩
      have B3 := Lib.hid (bt HB.out b3)
      clear b3
      go_wp2_with fail
      go_ret
      exact ⟨ret_bool hN.out.symm, B3.out⟩
    | false =>
      obtain ⟨b, off, cap1, hn, P⟩ := hv.pts (by omega)
      simp only [Value.slice.injEq] at hn
      obtain ⟨rfl, -, rfl⟩ := hn
      have HP := Lib.hid (fun W (hb : Below w.heap.size w W) => PtAt.below P hb)
      have CU := Lib.hid (fun W (hb : Below w.heap.size w W) => increasingP_any W b off cap xs (P.below hb) (by omega) hl)
      have CH := Lib.hid (fun W (hb : Below (w.alloc (.cells #[.slice (some ⟨b, off, none⟩) xs.length cap] 24)).heap.size (w.alloc (.cells #[.slice (some ⟨b, off, none⟩) xs.length cap] 24)) W) => containsFuncPth_any 57 #[.pointer (some ⟨w.heap.size, 0, none⟩)] (enters_of Tryz.func57 (by kernel_rfl) rfl) (fun x => decide ((An.nd xs 0).he < x.he)) W (.slice (some ⟨b, off, none⟩) xs.length cap) xs hl (hv.below (bt HB.out hb)) (fun x V hV => (isHigher_any x V w.heap.size b off cap xs (by omega) (HK.out V (bt hb hV)) (P.below (bt HB.out (bt hb hV)))).mono fun _ _ ⟨h, b⟩ => ⟨h, bt hV b⟩))
      have hG := Lib.hid (fun h1 h2 h3 => An.okB_good h2 h24 hw h1 h3)
      rw [hw] at CF
      have hz : (0 : Int) < (xs.length : Int) := by omega
      have hb1 : b < w.heap.size := World.block_lt_of_cell? w _ (P 0 (by omega)).1
      by_cases hd : (An.nd xs 0).di = 0
      · cases hu : An.up xs with
        | false =>
          have hN := Lib.hid (An.okB_up hu)
          rw [hu] at CU
          go_enter Tryz.func31, Tryz.ntmps31
          go_wp2_with fail
          refine (CW.out _).mono ?_
          rintro e w2 ⟨rfl, rfl⟩
          go_wp2_with fail
          refine (CF.out _ HB.out).mono ?_
          rintro e w3 ⟨rfl, b3⟩
          have B3 := Lib.hid b3
          have c3 := HK.out _ b3
          obtain ⟨z0, z1⟩ := (HP.out _ (bt HB.out b3)).zero (by omega)
          clear b3
          go_wp2_with fail
          refine (CU.out _ (bt HB.out B3.out)).mono ?_
          rintro e w4 ⟨rfl, b4⟩
          have B4 := Lib.hid (bt B3.out b4)
          clear b4
          go_wp2_with fail
          go_ret
          exact ⟨ret_bool hN.out.symm, bt HB.out B4.out⟩
        | true =>
          rw [hu] at CU
          cases hh : (xs.any fun x => decide ((An.nd xs 0).he < x.he)) with
          | false =>
            have hN : Hid (An.okB xs = true) := Lib.hid (An.okB_good h2 h24 hw hd hu hh)
            rw [hh] at CH
            clear hh hG
            go_enter Tryz.func31, Tryz.ntmps31
            go_wp2_with fail
            refine (CW.out _).mono ?_
            rintro e w2 ⟨rfl, rfl⟩
            go_wp2_with fail
            refine (CF.out _ HB.out).mono ?_
            rintro e w3 ⟨rfl, b3⟩
            have B3 := Lib.hid b3
            have c3 := HK.out _ b3
            obtain ⟨z0, z1⟩ := (HP.out _ (bt HB.out b3)).zero (by omega)
            clear b3
            go_wp2_with fail
            refine (CU.out _ (bt HB.out B3.out)).mono ?_
            rintro e w4 ⟨rfl, b4⟩
            have B4 := Lib.hid (bt B3.out b4)
            clear b4
            have c4 := HK.out _ B4.out
            go_wp2_with fail
            refine (CH.out _ B4.out).mono ?_
            rintro e w5 ⟨rfl, b5⟩
            have B5 := Lib.hid (bt B4.out b5)
            clear b5
            go_wp2_with fail
            go_ret
            exact ⟨ret_bool hN.out.symm, bt HB.out B5.out⟩
          | true =>
            have hN := Lib.hid (An.okB_high hh)
            rw [hh] at CH
            clear hh hG
            go_enter Tryz.func31, Tryz.ntmps31
            go_wp2_with fail
            refine (CW.out _).mono ?_
            rintro e w2 ⟨rfl, rfl⟩
            go_wp2_with fail
            refine (CF.out _ HB.out).mono ?_
            rintro e w3 ⟨rfl, b3⟩
            have B3 := Lib.hid b3
            have c3 := HK.out _ b3
            obtain ⟨z0, z1⟩ := (HP.out _ (bt HB.out b3)).zero (by omega)
            clear b3
            go_wp2_with fail
            refine (CU.out _ (bt HB.out B3.out)).mono ?_
            rintro e w4 ⟨rfl, b4⟩
            have B4 := Lib.hid (bt B3.out b4)
            clear b4
            have c4 := HK.out _ B4.out
            go_wp2_with fail
            refine (CH.out _ B4.out).mono ?_
            rintro e w5 ⟨rfl, b5⟩
            have B5 := Lib.hid (bt B4.out b5)
            clear b5
            go_wp2_with fail
            go_ret
            exact ⟨ret_bool hN.out.symm, bt HB.out B5.out⟩
      · have hN := Lib.hid (An.okB_d0 hd)
        have hdf : ((An.nd xs 0).di == 0) = false := beq_eq_false_iff_ne.2 hd
        go_enter Tryz.func31, Tryz.ntmps31
        go_wp2_with fail
        refine (CW.out _).mono ?_
        rintro e w2 ⟨rfl, rfl⟩
        go_wp2_with fail
        refine (CF.out _ HB.out).mono ?_
        rintro e w3 ⟨rfl, b3⟩
        have B3 := Lib.hid b3
        have c3 := HK.out _ b3
        obtain ⟨z0, z1⟩ := (HP.out _ (bt HB.out b3)).zero (by omega)
        clear b3
        go_wp2_with fail
        go_ret
        exact ⟨ret_bool hN.out.symm, bt HB.out B3.out⟩
  · have hin : Ar.inB 2 (xs.length : Int) 24 = false := Ar.inB_f (by omega)
    have hN := Lib.hid (An.okB_len hlen)
    rw [hin] at CW
    clear hin hv hlen CF
    go_enter Tryz.func31, Tryz.ntmps31
    go_wp2_with fail
    refine (CW.out _).mono ?_
    rintro e w2 ⟨rfl, rfl⟩
    go_wp2_with fail
    go_ret
    exact ⟨ret_bool hN.out.symm, HB.out⟩
theorem pathCode_any (w : World) (v : Value) (xs : List Pth) (q : Bool) (hv : PpSl w v xs) (hl : xs.length ≤ 1048576) :
    Calls Tryz.prog 19 #[v, .bool q] w fun e w' => e = .returned (.int .i64 (Cd.cd (An.okB xs) q 0)) ∧ Below w.heap.size w w' := by
  have C := Lib.hid (implValidPath_any w v xs hv hl)
  have CS := Lib.hid (fun W => statedCd_any (An.okB xs) q W)
  clear hv hl
  generalize An.okB xs = p at *
  go_enter Tryz.func19, Tryz.ntmps19
  go_wp2_with fail
  refine C.out.mono ?_
  rintro e w1 ⟨rfl, b1⟩
  have B1 := Lib.hid b1
  clear b1
  go_wp2_with fail
  refine (CS.out _).mono ?_
  rintro e w2 ⟨rfl, rfl⟩
  go_wp2_with fail
  go_ret
  exact ⟨rfl, B1.out⟩
theorem isTangent_any (t : Int) (w : World) : Calls Tryz.prog 20 #[.int .i64 t] w fun e w' => e = .returned (.bool (An.tg t)) ∧ w = w' := by
  go_enter Tryz.func20, Tryz.ntmps20
  go_wp2_with (go_at_call 42; refine (within_any _ _ _ _).mono ?_; rintro e w' ⟨rfl, rfl⟩)
  go_ret
  exact ⟨rfl, rfl⟩
set_option maxHeartbeats 800000 in
theorem isIndexP_any (k : Int) (a : Option Addr) (n cap : Nat) (w : World) (hn : n ≤ 1048576) : Calls Tryz.prog 34 #[.int .i64 k, .slice a n cap] w fun e w' => e = .returned (.bool (Ar.inB 0 k ((n : Int) - 1))) ∧ w = w' := by
  go_enter Tryz.func34, Tryz.ntmps34
  go_wp2_with (go_at_call 42; refine (within_any _ _ _ _).mono ?_; rintro e w' ⟨rfl, rfl⟩)
  go_ret
  exact ⟨rfl, rfl⟩
set_option maxHeartbeats 800000 in
theorem isAlong_any (w : World) (v : Value) (xs : List Pth) (d : Int) (hv : PpSl w v xs) (hl : xs.length ≤ 1048576) :
    Calls Tryz.prog 25 #[v, .int .i64 d] w fun e w' => e = .returned (.bool (An.alP xs d)) ∧ w = w' := by
  by_cases h0 : 0 < xs.length
  · obtain ⟨b, off, cap, rfl, P⟩ := hv.pts h0
    have c0 : w.cell? ⟨b, off + (xs.length - 1) * 2, none⟩ = some (.int .i64 (An.la xs)) := (P (xs.length - 1) (by omega)).1
    have m1 : IntKind.i64.wrap ((xs.length : Int) - 1) = (xs.length : Int) - 1 := wrap_in (by omega) (by omega)
    have m2 : (0 : Int) ≤ (xs.length : Int) - 1 := by omega
    have m3 : ((xs.length : Int) - 1).toNat = xs.length - 1 := by omega
    have hz : decide ((0 : Int) < (xs.length : Int)) = true := decide_eq_true (by omega)
    have C := Lib.hid (fun W => within_any d 0 (An.la xs) W)
    have E : Hid (An.alP xs d = Ar.inB 0 d (An.la xs)) := Lib.hid (by unfold An.alP An.al; rw [decide_eq_true h0, Bool.true_and])
    clear P hv
    generalize An.la xs = L at *
    go_enter Tryz.func25, Tryz.ntmps25
    go_wp2_with fail
    refine (C.out _).mono ?_
    rintro e w1 ⟨rfl, rfl⟩
    go_wp2_with fail
    go_ret
    exact ⟨ret_bool E.out.symm, rfl⟩
  · obtain ⟨a, cap, rfl⟩ := hv.form
    have E : Hid (An.alP xs d = false) := Lib.hid (by unfold An.alP; rw [decide_eq_false h0, Bool.false_and])
    have hz : decide ((0 : Int) < (xs.length : Int)) = false := decide_eq_false (by omega)
    clear hv
    go_enter Tryz.func25, Tryz.ntmps25
    go_wp2_with fail
    go_ret
    exact ⟨ret_bool E.out.symm, rfl⟩
end Go.Proofs.YtmieckchppfogaaGreatDoor

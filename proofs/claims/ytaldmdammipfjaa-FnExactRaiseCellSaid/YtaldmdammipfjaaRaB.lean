/-
  RaiseCell (chapter 15) by the program. The condition: the numbers are int64's. (Written by wip/gen/genra.py.)
-/
import Derived.Test.YtaldmdammipfjaaRaA
import Derived.Test.YtaldmdammipfjaaIsI
import Derived.Deep.RegionHeld3
namespace Go.Proofs.Ytaldmdammipfjaa
open Go.RowKit Go.Shelf Go.Deep
set_option linter.unusedVariables false
set_option maxRecDepth 100000
theorem isRaise_any (b : Int) (w : World) : Calls Try.prog 57 #[.int .i64 b] w fun e w' => e = .returned (.bool (Ar.inB 0 b 100)) ∧ w = w' := by
  go_enter Try.func57, Try.ntmps57
  go_wp2_with (go_at_call 79; refine (within_any _ _ _ _).mono ?_; rintro e w' ⟨rfl, rfl⟩)
  go_ret
  exact ⟨rfl, rfl⟩
set_option maxHeartbeats 12800000 in
theorem implRaiseCell_any (w : World) (r c s : Int) (v : Value) (zs : List Int) (k b : Int) (hv : IAt w v zs) (hl : zs.length ≤ 1048576) (hkb : -9223372036854775808 ≤ k ∧ k ≤ 9223372036854775807) (hbb : -9223372036854775808 ≤ b ∧ b ≤ 9223372036854775807) :
    Calls Try.prog 25 #[.agg #[.int .i64 r, .int .i64 c, .int .i64 s, v], .int .i64 k, .int .i64 b] w (RGC w (Gw.raN r c s zs k b r) (Gw.raN r c s zs k b c) (Gw.raN r c s zs k b s) (Gw.raL r c s zs k b) (Gw.raK r c s zs k b)) := by
  obtain ⟨Bo, g0, cap, rfl, hown⟩ := hv
  obtain ⟨W2, hW2⟩ : ∃ W2, boxG (boxG w r c s (.slice (some ⟨g0, 0, none⟩) zs.length cap) 29) 0 0 0 (.slice none 0 0) 29 = W2 := ⟨_, rfl⟩
  have HB : Hid (Below w.heap.size w W2) := Lib.hid (by rw [← hW2]; exact bt (boxG_below ..) (boxG_below ..))
  have K1 : Hid (GC W2 w.heap.size r c s (.slice (some ⟨g0, 0, none⟩) zs.length cap)) := Lib.hid (by rw [← hW2]; exact (boxG_cells w r c s _ _).all (boxG_below ..))
  have R1 : Hid (Whole W2 (w.heap.size + 1) 29 #[.int .i64 0, .int .i64 0, .int .i64 0, .slice none 0 0]) := Lib.hid (by
    rw [← hW2]
    have := Whole.new (boxG w r c s (.slice (some ⟨g0, 0, none⟩) zs.length cap) 29) 29 #[.int .i64 0, .int .i64 0, .int .i64 0, .slice none 0 0]
    rw [boxG_size] at this
    exact this)
  have HO := Lib.hid (hown.belowAll HB.out)
  have CV := Lib.hid (fun W (h : Below W2.heap.size W2 W) => implValidGrid_any W r c s (.slice (some ⟨g0, 0, none⟩) zs.length cap) zs (HO.out.belowAll h).sl hl)
  have CI := Lib.hid (fun W => isIndexT_any W (some ⟨g0, 0, none⟩) zs.length cap k hl)
  have CB := Lib.hid (fun W => isRaise_any b W)
  have CS := Lib.hid (fun a b W => statedCd_any a b W)
  obtain ⟨x0, x1, x2, x3⟩ := K1.out.four
  have hwl := K1.out.lt
  have hwl2 := R1.out.lt
  clear hown
  unfold boxG at hW2
  cases hok : Gw.ok r c s zs with
  | false =>
    have HE : Hid (Gw.raK r c s zs k b = 1) := Lib.hid (by unfold Gw.raK; rw [hok]; rfl)
    rw [hok] at CV
    have CS := Lib.hid (fun q W => CS.out false q W)
    simp only [Cd.cd_f] at CS
    clear hok
    generalize Ar.inB 0 b 100 = yb at *
    cases hix : Ar.inB 0 k (zs.length - 1) with
    | false =>
      rw [hix] at CI
      clear hix
      go_enter Try.func25, Try.ntmps25
      go_wp2_with fail
      try rw [hW2]
      refine wp_region_held_drew (S := (fun w' => w'.cell? ⟨w.heap.size, 0, none⟩ = some (.int .i64 r) ∧ w'.cell? ⟨w.heap.size, 1, none⟩ = some (.int .i64 c) ∧ w'.cell? ⟨w.heap.size, 2, none⟩ = some (.int .i64 s) ∧ w'.cell? ⟨w.heap.size, 3, none⟩ = some (.slice (some ⟨g0, 0, none⟩) zs.length cap))) (by kernel_rfl) ?_ (fun hHeld => ?_)
      · (try dsimp only)
        first | done | go_keep
      refine wpAnyH_take (i := 0) (oi := ({ dst := some 10, op := Op.load 29 (Operand.tmp 3), type := 29, pos := "l15_exposure.go:96", after := #[], guard := none } : Oper)) (v := ?_) rfl (by kernel_rfl) (by kernel_rfl) (by kernel_rfl) (fun _ _ _ h => h) (Or.inl ⟨by kernel_rfl, ?_⟩) (by assumption) ?_
      rotate_left
      · (intro w hSw; (try dsimp only at hSw); go_simp <;> with_reducible rfl)
      try simp only [Act.put, List.setIfInBounds_toArray, List.set_cons_zero, List.set_cons_succ]
      refine wpAnyH_take (i := 2) (oi := ({ dst := some 12, op := Op.move (Operand.tmp 1), type := 2, pos := "l15_exposure.go:96", after := #[], guard := none } : Oper)) (v := ?_) rfl (by kernel_rfl) (by kernel_rfl) (by kernel_rfl) (fun _ _ _ h => h) (Or.inl ⟨by kernel_rfl, ?_⟩) (by assumption) ?_
      rotate_left
      · (intro w hSw; (try dsimp only at hSw); go_simp <;> with_reducible rfl)
      try simp only [Act.put, List.setIfInBounds_toArray, List.set_cons_zero, List.set_cons_succ]
      refine wpAnyH_take (i := 3) (oi := ({ dst := some 13, op := Op.fieldAddr 29 (Operand.tmp 3) 3, type := 0, pos := "l15_exposure.go:96", after := #[], guard := none } : Oper)) (v := ?_) rfl (by kernel_rfl) (by kernel_rfl) (by kernel_rfl) (fun _ _ _ h => h) (Or.inl ⟨by kernel_rfl, ?_⟩) (by assumption) ?_
      rotate_left
      · (intro w hSw; (try dsimp only at hSw); go_simp <;> with_reducible rfl)
      try simp only [Act.put, List.setIfInBounds_toArray, List.set_cons_zero, List.set_cons_succ]
      refine wpAnyH_take (i := 4) (oi := ({ dst := some 14, op := Op.load 22 (Operand.tmp 13), type := 22, pos := "l15_exposure.go:96", after := #[{ on := 3, ground := Ground.data }], guard := none } : Oper)) (v := ?_) rfl (by kernel_rfl) (by kernel_rfl) (by kernel_rfl) (fun _ _ _ h => h) (Or.inl ⟨by kernel_rfl, ?_⟩) (by assumption) ?_
      rotate_left
      · (intro w hSw; (try dsimp only at hSw); go_simp <;> with_reducible rfl)
      try simp only [Act.put, List.setIfInBounds_toArray, List.set_cons_zero, List.set_cons_succ]
      refine wpAnyH_ready (rs := [1]) (by kernel_rfl) (by simp) ?_
      refine AllReadyH.cons (o := ({ dst := some 11, op := Op.call { callee := Callee.value (Operand.func 41), args := #[Operand.tmp 10], argTypes := #[29] }, type := 4, pos := "l15_exposure.go:96", after := #[{ on := 0, ground := Ground.data }], guard := none } : Oper)) rfl (fun K hK => ?_) ?_
      · go_simp
        (go_at_call 41; refine (CV.out _ (below_drewW _ 1)).mono ?_; rintro e wA ⟨rfl, bA⟩; have bA0 := bt (below_drewW _ 1) bA; obtain ⟨y0, y1, y2, y3⟩ := (K1.out.all bA0).four)
        go_wp2_with fail
        refine hK.out _ _ ?_ (fun hHeld => ?_)
        · (try dsimp only)
          first | done | go_keep
        clear hK K
        try simp only [Act.put, List.setIfInBounds_toArray, List.set_cons_zero, List.set_cons_succ]
        refine wpAnyH_ready (rs := [5]) (by kernel_rfl) (by simp) ?_
        refine AllReadyH.cons (o := ({ dst := some 15, op := Op.call { callee := Callee.value (Operand.func 56), args := #[Operand.tmp 12, Operand.tmp 14], argTypes := #[2, 22] }, type := 4, pos := "l15_exposure.go:96", after := #[{ on := 2, ground := Ground.data }, { on := 4, ground := Ground.data }, { on := 1, ground := Ground.chain }], guard := none } : Oper)) rfl (fun K hK => ?_) ?_
        · go_simp
          (go_at_call 56; refine (CI.out _).mono ?_; rintro e w' ⟨rfl, rfl⟩)
          go_wp2_with fail
          refine hK.out _ _ ?_ (fun hHeld => ?_)
          · (try dsimp only)
            first | done | go_keep
          clear hK K
          try simp only [Act.put, List.setIfInBounds_toArray, List.set_cons_zero, List.set_cons_succ]
          refine wpAnyH_take (i := 6) (oi := ({ dst := some 16, op := Op.move (Operand.tmp 15), type := 4, pos := "l15_exposure.go:96", after := #[{ on := 5, ground := Ground.data }, { on := 5, ground := Ground.chain }], guard := none } : Oper)) (v := ?_) rfl (by kernel_rfl) (by kernel_rfl) (by kernel_rfl) (fun _ _ _ h => h) (Or.inl ⟨by kernel_rfl, ?_⟩) (by assumption) ?_
          rotate_left
          · (intro w hSw; (try dsimp only at hSw); go_simp <;> with_reducible rfl)
          try simp only [Act.put, List.setIfInBounds_toArray, List.set_cons_zero, List.set_cons_succ]
          refine wpAnyH_take (i := 7) (oi := ({ dst := some 17, op := Op.move (Operand.tmp 2), type := 2, pos := "l15_exposure.go:96", after := #[{ on := 6, ground := Ground.guard }], guard := some (6, true) } : Oper)) (v := undef) rfl (by kernel_rfl) (by kernel_rfl) (by kernel_rfl) (fun _ _ _ h => h) (Or.inr ⟨by kernel_rfl, rfl⟩) (by assumption) ?_
          try simp only [Act.put, List.setIfInBounds_toArray, List.set_cons_zero, List.set_cons_succ]
          refine wpAnyH_take (i := 8) (oi := ({ dst := some 18, op := Op.call { callee := Callee.value (Operand.func 57), args := #[Operand.tmp 17], argTypes := #[2] }, type := 4, pos := "l15_exposure.go:96", after := #[{ on := 7, ground := Ground.data }, { on := 6, ground := Ground.chain }, { on := 6, ground := Ground.guard }], guard := some (6, true) } : Oper)) (v := undef) rfl (by kernel_rfl) (by kernel_rfl) (by kernel_rfl) (fun _ _ _ h => h) (Or.inr ⟨by kernel_rfl, rfl⟩) (by assumption) ?_
          try simp only [Act.put, List.setIfInBounds_toArray, List.set_cons_zero, List.set_cons_succ]
          refine wpAnyH_take (i := 9) (oi := ({ dst := some 19, op := Op.pick (Operand.tmp 16) (Operand.tmp 18) (Operand.const (Value.bool false)), type := 4, pos := "l15_exposure.go:96", after := #[{ on := 6, ground := Ground.data }, { on := 8, ground := Ground.data }], guard := none } : Oper)) (v := ?_) rfl (by kernel_rfl) (by kernel_rfl) (by kernel_rfl) (fun _ _ _ h => h) (Or.inl ⟨by kernel_rfl, ?_⟩) (by assumption) ?_
          rotate_left
          · (intro w hSw; (try dsimp only at hSw); go_simp <;> with_reducible rfl)
          try simp only [Act.put, List.setIfInBounds_toArray, List.set_cons_zero, List.set_cons_succ]
          refine wpAnyH_ready (rs := [10]) (by kernel_rfl) (by simp) ?_
          refine AllReadyH.cons (o := ({ dst := some 20, op := Op.call { callee := Callee.value (Operand.func 55), args := #[Operand.tmp 11, Operand.tmp 19], argTypes := #[4, 4] }, type := 2, pos := "l15_exposure.go:96", after := #[{ on := 1, ground := Ground.data }, { on := 9, ground := Ground.data }, { on := 8, ground := Ground.chain }], guard := none } : Oper)) rfl (fun K hK => ?_) ?_
          · go_simp
            (go_at_call 55; refine (CS.out _ _).mono ?_; rintro e w' ⟨rfl, rfl⟩)
            go_wp2_with fail
            refine hK.out _ _ ?_ (fun hHeld => ?_)
            · (try dsimp only)
              first | done | go_keep
            clear hK K
            try simp only [Act.put, List.setIfInBounds_toArray, List.set_cons_zero, List.set_cons_succ]
            refine wpAnyH_take (i := 11) (oi := ({ dst := some 8, op := Op.assign (Operand.tmp 20), type := 2, pos := "l15_exposure.go:96", after := #[{ on := 10, ground := Ground.data }, { on := 10, ground := Ground.chain }, { on := 0, ground := Ground.phase }, { on := 1, ground := Ground.phase }, { on := 2, ground := Ground.phase }, { on := 3, ground := Ground.phase }, { on := 4, ground := Ground.phase }, { on := 5, ground := Ground.phase }, { on := 6, ground := Ground.phase }, { on := 7, ground := Ground.phase }, { on := 8, ground := Ground.phase }, { on := 9, ground := Ground.phase }, { on := 10, ground := Ground.phase }], guard := none } : Oper)) (v := ?_) rfl (by kernel_rfl) (by kernel_rfl) (by kernel_rfl) (fun _ _ _ h => h) (Or.inl ⟨by kernel_rfl, ?_⟩) (by assumption) ?_
            rotate_left
            · (intro w hSw; (try dsimp only at hSw); go_simp <;> with_reducible rfl)
            try simp only [Act.put, List.setIfInBounds_toArray, List.set_cons_zero, List.set_cons_succ]
            refine wpAnyH_done (by kernel_rfl) ?_ _
            have A1 := Lib.hid (R1.out.all bA0)
            have B3 := Lib.hid (bt HB.out bA0)
            clear bA bA0 y0 y1 y2 y3
            have t0 := A1.out.at_ 0; have t1 := A1.out.at_ 1; have t2 := A1.out.at_ 2; have t3 := A1.out.at_ 3
            have g0 := A1.out.free 0; have g1 := A1.out.free 1; have g2 := A1.out.free 2; have g3 := A1.out.free 3
            go_wp2_with fail
            have W5 := setG_whole A1.out 0 0 0 (.slice none 0 0)
            have B6 := setG_below B3.out (show w.heap.size ≤ w.heap.size + 1 by omega) 0 0 0 (.slice none 0 0)
            have d0 := W5.at_ 0; have d1 := W5.at_ 1; have d2 := W5.at_ 2; have d3 := W5.at_ 3
            unfold setG at d0 d1 d2 d3 B6
            exact bodyPost_ret (v := .tuple #[.agg #[.int .i64 0, .int .i64 0, .int .i64 0, .slice none 0 0], .int .i64 1]) (by simp [results, Try.results25, go_sem, d0, d1, d2, d3]) rfl (RGC.no HE.out (by decide) B6)
          exact AllReadyH.nil
        exact AllReadyH.nil
      exact AllReadyH.nil
    | true =>
      rw [hix] at CI
      clear hix
      go_enter Try.func25, Try.ntmps25
      go_wp2_with fail
      try rw [hW2]
      refine wp_region_held_drew (S := (fun w' => w'.cell? ⟨w.heap.size, 0, none⟩ = some (.int .i64 r) ∧ w'.cell? ⟨w.heap.size, 1, none⟩ = some (.int .i64 c) ∧ w'.cell? ⟨w.heap.size, 2, none⟩ = some (.int .i64 s) ∧ w'.cell? ⟨w.heap.size, 3, none⟩ = some (.slice (some ⟨g0, 0, none⟩) zs.length cap))) (by kernel_rfl) ?_ (fun hHeld => ?_)
      · (try dsimp only)
        first | done | go_keep
      refine wpAnyH_take (i := 0) (oi := ({ dst := some 10, op := Op.load 29 (Operand.tmp 3), type := 29, pos := "l15_exposure.go:96", after := #[], guard := none } : Oper)) (v := ?_) rfl (by kernel_rfl) (by kernel_rfl) (by kernel_rfl) (fun _ _ _ h => h) (Or.inl ⟨by kernel_rfl, ?_⟩) (by assumption) ?_
      rotate_left
      · (intro w hSw; (try dsimp only at hSw); go_simp <;> with_reducible rfl)
      try simp only [Act.put, List.setIfInBounds_toArray, List.set_cons_zero, List.set_cons_succ]
      refine wpAnyH_take (i := 2) (oi := ({ dst := some 12, op := Op.move (Operand.tmp 1), type := 2, pos := "l15_exposure.go:96", after := #[], guard := none } : Oper)) (v := ?_) rfl (by kernel_rfl) (by kernel_rfl) (by kernel_rfl) (fun _ _ _ h => h) (Or.inl ⟨by kernel_rfl, ?_⟩) (by assumption) ?_
      rotate_left
      · (intro w hSw; (try dsimp only at hSw); go_simp <;> with_reducible rfl)
      try simp only [Act.put, List.setIfInBounds_toArray, List.set_cons_zero, List.set_cons_succ]
      refine wpAnyH_take (i := 3) (oi := ({ dst := some 13, op := Op.fieldAddr 29 (Operand.tmp 3) 3, type := 0, pos := "l15_exposure.go:96", after := #[], guard := none } : Oper)) (v := ?_) rfl (by kernel_rfl) (by kernel_rfl) (by kernel_rfl) (fun _ _ _ h => h) (Or.inl ⟨by kernel_rfl, ?_⟩) (by assumption) ?_
      rotate_left
      · (intro w hSw; (try dsimp only at hSw); go_simp <;> with_reducible rfl)
      try simp only [Act.put, List.setIfInBounds_toArray, List.set_cons_zero, List.set_cons_succ]
      refine wpAnyH_take (i := 4) (oi := ({ dst := some 14, op := Op.load 22 (Operand.tmp 13), type := 22, pos := "l15_exposure.go:96", after := #[{ on := 3, ground := Ground.data }], guard := none } : Oper)) (v := ?_) rfl (by kernel_rfl) (by kernel_rfl) (by kernel_rfl) (fun _ _ _ h => h) (Or.inl ⟨by kernel_rfl, ?_⟩) (by assumption) ?_
      rotate_left
      · (intro w hSw; (try dsimp only at hSw); go_simp <;> with_reducible rfl)
      try simp only [Act.put, List.setIfInBounds_toArray, List.set_cons_zero, List.set_cons_succ]
      refine wpAnyH_ready (rs := [1]) (by kernel_rfl) (by simp) ?_
      refine AllReadyH.cons (o := ({ dst := some 11, op := Op.call { callee := Callee.value (Operand.func 41), args := #[Operand.tmp 10], argTypes := #[29] }, type := 4, pos := "l15_exposure.go:96", after := #[{ on := 0, ground := Ground.data }], guard := none } : Oper)) rfl (fun K hK => ?_) ?_
      · go_simp
        (go_at_call 41; refine (CV.out _ (below_drewW _ 1)).mono ?_; rintro e wA ⟨rfl, bA⟩; have bA0 := bt (below_drewW _ 1) bA; obtain ⟨y0, y1, y2, y3⟩ := (K1.out.all bA0).four)
        go_wp2_with fail
        refine hK.out _ _ ?_ (fun hHeld => ?_)
        · (try dsimp only)
          first | done | go_keep
        clear hK K
        try simp only [Act.put, List.setIfInBounds_toArray, List.set_cons_zero, List.set_cons_succ]
        refine wpAnyH_ready (rs := [5]) (by kernel_rfl) (by simp) ?_
        refine AllReadyH.cons (o := ({ dst := some 15, op := Op.call { callee := Callee.value (Operand.func 56), args := #[Operand.tmp 12, Operand.tmp 14], argTypes := #[2, 22] }, type := 4, pos := "l15_exposure.go:96", after := #[{ on := 2, ground := Ground.data }, { on := 4, ground := Ground.data }, { on := 1, ground := Ground.chain }], guard := none } : Oper)) rfl (fun K hK => ?_) ?_
        · go_simp
          (go_at_call 56; refine (CI.out _).mono ?_; rintro e w' ⟨rfl, rfl⟩)
          go_wp2_with fail
          refine hK.out _ _ ?_ (fun hHeld => ?_)
          · (try dsimp only)
            first | done | go_keep
          clear hK K
          try simp only [Act.put, List.setIfInBounds_toArray, List.set_cons_zero, List.set_cons_succ]
          refine wpAnyH_take (i := 6) (oi := ({ dst := some 16, op := Op.move (Operand.tmp 15), type := 4, pos := "l15_exposure.go:96", after := #[{ on := 5, ground := Ground.data }, { on := 5, ground := Ground.chain }], guard := none } : Oper)) (v := ?_) rfl (by kernel_rfl) (by kernel_rfl) (by kernel_rfl) (fun _ _ _ h => h) (Or.inl ⟨by kernel_rfl, ?_⟩) (by assumption) ?_
          rotate_left
          · (intro w hSw; (try dsimp only at hSw); go_simp <;> with_reducible rfl)
          try simp only [Act.put, List.setIfInBounds_toArray, List.set_cons_zero, List.set_cons_succ]
          refine wpAnyH_take (i := 7) (oi := ({ dst := some 17, op := Op.move (Operand.tmp 2), type := 2, pos := "l15_exposure.go:96", after := #[{ on := 6, ground := Ground.guard }], guard := some (6, true) } : Oper)) (v := ?_) rfl (by kernel_rfl) (by kernel_rfl) (by kernel_rfl) (fun _ _ _ h => h) (Or.inl ⟨by kernel_rfl, ?_⟩) (by assumption) ?_
          rotate_left
          · (intro w hSw; (try dsimp only at hSw); go_simp <;> with_reducible rfl)
          try simp only [Act.put, List.setIfInBounds_toArray, List.set_cons_zero, List.set_cons_succ]
          refine wpAnyH_ready (rs := [8]) (by kernel_rfl) (by simp) ?_
          refine AllReadyH.cons (o := ({ dst := some 18, op := Op.call { callee := Callee.value (Operand.func 57), args := #[Operand.tmp 17], argTypes := #[2] }, type := 4, pos := "l15_exposure.go:96", after := #[{ on := 7, ground := Ground.data }, { on := 6, ground := Ground.chain }, { on := 6, ground := Ground.guard }], guard := some (6, true) } : Oper)) rfl (fun K hK => ?_) ?_
          · go_simp
            (go_at_call 57; refine (CB.out _).mono ?_; rintro e w' ⟨rfl, rfl⟩)
            go_wp2_with fail
            refine hK.out _ _ ?_ (fun hHeld => ?_)
            · (try dsimp only)
              first | done | go_keep
            clear hK K
            try simp only [Act.put, List.setIfInBounds_toArray, List.set_cons_zero, List.set_cons_succ]
            refine wpAnyH_take (i := 9) (oi := ({ dst := some 19, op := Op.pick (Operand.tmp 16) (Operand.tmp 18) (Operand.const (Value.bool false)), type := 4, pos := "l15_exposure.go:96", after := #[{ on := 6, ground := Ground.data }, { on := 8, ground := Ground.data }], guard := none } : Oper)) (v := ?_) rfl (by kernel_rfl) (by kernel_rfl) (by kernel_rfl) (fun _ _ _ h => h) (Or.inl ⟨by kernel_rfl, ?_⟩) (by assumption) ?_
            rotate_left
            · (intro w hSw; (try dsimp only at hSw); go_simp <;> with_reducible rfl)
            try simp only [Act.put, List.setIfInBounds_toArray, List.set_cons_zero, List.set_cons_succ]
            refine wpAnyH_ready (rs := [10]) (by kernel_rfl) (by simp) ?_
            refine AllReadyH.cons (o := ({ dst := some 20, op := Op.call { callee := Callee.value (Operand.func 55), args := #[Operand.tmp 11, Operand.tmp 19], argTypes := #[4, 4] }, type := 2, pos := "l15_exposure.go:96", after := #[{ on := 1, ground := Ground.data }, { on := 9, ground := Ground.data }, { on := 8, ground := Ground.chain }], guard := none } : Oper)) rfl (fun K hK => ?_) ?_
            · go_simp
              (go_at_call 55; refine (CS.out _ _).mono ?_; rintro e w' ⟨rfl, rfl⟩)
              go_wp2_with fail
              refine hK.out _ _ ?_ (fun hHeld => ?_)
              · (try dsimp only)
                first | done | go_keep
              clear hK K
              try simp only [Act.put, List.setIfInBounds_toArray, List.set_cons_zero, List.set_cons_succ]
              refine wpAnyH_take (i := 11) (oi := ({ dst := some 8, op := Op.assign (Operand.tmp 20), type := 2, pos := "l15_exposure.go:96", after := #[{ on := 10, ground := Ground.data }, { on := 10, ground := Ground.chain }, { on := 0, ground := Ground.phase }, { on := 1, ground := Ground.phase }, { on := 2, ground := Ground.phase }, { on := 3, ground := Ground.phase }, { on := 4, ground := Ground.phase }, { on := 5, ground := Ground.phase }, { on := 6, ground := Ground.phase }, { on := 7, ground := Ground.phase }, { on := 8, ground := Ground.phase }, { on := 9, ground := Ground.phase }, { on := 10, ground := Ground.phase }], guard := none } : Oper)) (v := ?_) rfl (by kernel_rfl) (by kernel_rfl) (by kernel_rfl) (fun _ _ _ h => h) (Or.inl ⟨by kernel_rfl, ?_⟩) (by assumption) ?_
              rotate_left
              · (intro w hSw; (try dsimp only at hSw); go_simp <;> with_reducible rfl)
              try simp only [Act.put, List.setIfInBounds_toArray, List.set_cons_zero, List.set_cons_succ]
              refine wpAnyH_done (by kernel_rfl) ?_ _
              have A1 := Lib.hid (R1.out.all bA0)
              have B3 := Lib.hid (bt HB.out bA0)
              clear bA bA0 y0 y1 y2 y3
              have t0 := A1.out.at_ 0; have t1 := A1.out.at_ 1; have t2 := A1.out.at_ 2; have t3 := A1.out.at_ 3
              have g0 := A1.out.free 0; have g1 := A1.out.free 1; have g2 := A1.out.free 2; have g3 := A1.out.free 3
              go_wp2_with fail
              have W5 := setG_whole A1.out 0 0 0 (.slice none 0 0)
              have B6 := setG_below B3.out (show w.heap.size ≤ w.heap.size + 1 by omega) 0 0 0 (.slice none 0 0)
              have d0 := W5.at_ 0; have d1 := W5.at_ 1; have d2 := W5.at_ 2; have d3 := W5.at_ 3
              unfold setG at d0 d1 d2 d3 B6
              exact bodyPost_ret (v := .tuple #[.agg #[.int .i64 0, .int .i64 0, .int .i64 0, .slice none 0 0], .int .i64 1]) (by simp [results, Try.results25, go_sem, d0, d1, d2, d3]) rfl (RGC.no HE.out (by decide) B6)
            exact AllReadyH.nil
          exact AllReadyH.nil
        exact AllReadyH.nil
      exact AllReadyH.nil
  | true =>
    have G := (Gw.ok_iff _ _ _ _).1 hok
    have hgn := G.n
    have hcell : Gw.isCell r c k = Ar.inB 0 k (zs.length - 1) := by unfold Gw.isCell; rw [hgn]
    rw [hok] at CV
    cases hix : Ar.inB 0 k (zs.length - 1) with
    | false =>
      have HE : Hid (Gw.raK r c s zs k b = 2) := Lib.hid (by unfold Gw.raK; rw [hok, hcell, hix]; rfl)
      rw [hix] at CI
      have CS := Lib.hid (fun W => CS.out true false W)
      simp only [Cd.cd_tf] at CS
      clear hix hcell hgn G hok
      go_enter Try.func25, Try.ntmps25
      go_wp2_with fail
      try rw [hW2]
      refine wp_region_held_drew (S := (fun w' => w'.cell? ⟨w.heap.size, 0, none⟩ = some (.int .i64 r) ∧ w'.cell? ⟨w.heap.size, 1, none⟩ = some (.int .i64 c) ∧ w'.cell? ⟨w.heap.size, 2, none⟩ = some (.int .i64 s) ∧ w'.cell? ⟨w.heap.size, 3, none⟩ = some (.slice (some ⟨g0, 0, none⟩) zs.length cap))) (by kernel_rfl) ?_ (fun hHeld => ?_)
      · (try dsimp only)
        first | done | go_keep
      refine wpAnyH_take (i := 0) (oi := ({ dst := some 10, op := Op.load 29 (Operand.tmp 3), type := 29, pos := "l15_exposure.go:96", after := #[], guard := none } : Oper)) (v := ?_) rfl (by kernel_rfl) (by kernel_rfl) (by kernel_rfl) (fun _ _ _ h => h) (Or.inl ⟨by kernel_rfl, ?_⟩) (by assumption) ?_
      rotate_left
      · (intro w hSw; (try dsimp only at hSw); go_simp <;> with_reducible rfl)
      try simp only [Act.put, List.setIfInBounds_toArray, List.set_cons_zero, List.set_cons_succ]
      refine wpAnyH_take (i := 2) (oi := ({ dst := some 12, op := Op.move (Operand.tmp 1), type := 2, pos := "l15_exposure.go:96", after := #[], guard := none } : Oper)) (v := ?_) rfl (by kernel_rfl) (by kernel_rfl) (by kernel_rfl) (fun _ _ _ h => h) (Or.inl ⟨by kernel_rfl, ?_⟩) (by assumption) ?_
      rotate_left
      · (intro w hSw; (try dsimp only at hSw); go_simp <;> with_reducible rfl)
      try simp only [Act.put, List.setIfInBounds_toArray, List.set_cons_zero, List.set_cons_succ]
      refine wpAnyH_take (i := 3) (oi := ({ dst := some 13, op := Op.fieldAddr 29 (Operand.tmp 3) 3, type := 0, pos := "l15_exposure.go:96", after := #[], guard := none } : Oper)) (v := ?_) rfl (by kernel_rfl) (by kernel_rfl) (by kernel_rfl) (fun _ _ _ h => h) (Or.inl ⟨by kernel_rfl, ?_⟩) (by assumption) ?_
      rotate_left
      · (intro w hSw; (try dsimp only at hSw); go_simp <;> with_reducible rfl)
      try simp only [Act.put, List.setIfInBounds_toArray, List.set_cons_zero, List.set_cons_succ]
      refine wpAnyH_take (i := 4) (oi := ({ dst := some 14, op := Op.load 22 (Operand.tmp 13), type := 22, pos := "l15_exposure.go:96", after := #[{ on := 3, ground := Ground.data }], guard := none } : Oper)) (v := ?_) rfl (by kernel_rfl) (by kernel_rfl) (by kernel_rfl) (fun _ _ _ h => h) (Or.inl ⟨by kernel_rfl, ?_⟩) (by assumption) ?_
      rotate_left
      · (intro w hSw; (try dsimp only at hSw); go_simp <;> with_reducible rfl)
      try simp only [Act.put, List.setIfInBounds_toArray, List.set_cons_zero, List.set_cons_succ]
      refine wpAnyH_ready (rs := [1]) (by kernel_rfl) (by simp) ?_
      refine AllReadyH.cons (o := ({ dst := some 11, op := Op.call { callee := Callee.value (Operand.func 41), args := #[Operand.tmp 10], argTypes := #[29] }, type := 4, pos := "l15_exposure.go:96", after := #[{ on := 0, ground := Ground.data }], guard := none } : Oper)) rfl (fun K hK => ?_) ?_
      · go_simp
        (go_at_call 41; refine (CV.out _ (below_drewW _ 1)).mono ?_; rintro e wA ⟨rfl, bA⟩; have bA0 := bt (below_drewW _ 1) bA; obtain ⟨y0, y1, y2, y3⟩ := (K1.out.all bA0).four)
        go_wp2_with fail
        refine hK.out _ _ ?_ (fun hHeld => ?_)
        · (try dsimp only)
          first | done | go_keep
        clear hK K
        try simp only [Act.put, List.setIfInBounds_toArray, List.set_cons_zero, List.set_cons_succ]
        refine wpAnyH_ready (rs := [5]) (by kernel_rfl) (by simp) ?_
        refine AllReadyH.cons (o := ({ dst := some 15, op := Op.call { callee := Callee.value (Operand.func 56), args := #[Operand.tmp 12, Operand.tmp 14], argTypes := #[2, 22] }, type := 4, pos := "l15_exposure.go:96", after := #[{ on := 2, ground := Ground.data }, { on := 4, ground := Ground.data }, { on := 1, ground := Ground.chain }], guard := none } : Oper)) rfl (fun K hK => ?_) ?_
        · go_simp
          (go_at_call 56; refine (CI.out _).mono ?_; rintro e w' ⟨rfl, rfl⟩)
          go_wp2_with fail
          refine hK.out _ _ ?_ (fun hHeld => ?_)
          · (try dsimp only)
            first | done | go_keep
          clear hK K
          try simp only [Act.put, List.setIfInBounds_toArray, List.set_cons_zero, List.set_cons_succ]
          refine wpAnyH_take (i := 6) (oi := ({ dst := some 16, op := Op.move (Operand.tmp 15), type := 4, pos := "l15_exposure.go:96", after := #[{ on := 5, ground := Ground.data }, { on := 5, ground := Ground.chain }], guard := none } : Oper)) (v := ?_) rfl (by kernel_rfl) (by kernel_rfl) (by kernel_rfl) (fun _ _ _ h => h) (Or.inl ⟨by kernel_rfl, ?_⟩) (by assumption) ?_
          rotate_left
          · (intro w hSw; (try dsimp only at hSw); go_simp <;> with_reducible rfl)
          try simp only [Act.put, List.setIfInBounds_toArray, List.set_cons_zero, List.set_cons_succ]
          refine wpAnyH_take (i := 7) (oi := ({ dst := some 17, op := Op.move (Operand.tmp 2), type := 2, pos := "l15_exposure.go:96", after := #[{ on := 6, ground := Ground.guard }], guard := some (6, true) } : Oper)) (v := undef) rfl (by kernel_rfl) (by kernel_rfl) (by kernel_rfl) (fun _ _ _ h => h) (Or.inr ⟨by kernel_rfl, rfl⟩) (by assumption) ?_
          try simp only [Act.put, List.setIfInBounds_toArray, List.set_cons_zero, List.set_cons_succ]
          refine wpAnyH_take (i := 8) (oi := ({ dst := some 18, op := Op.call { callee := Callee.value (Operand.func 57), args := #[Operand.tmp 17], argTypes := #[2] }, type := 4, pos := "l15_exposure.go:96", after := #[{ on := 7, ground := Ground.data }, { on := 6, ground := Ground.chain }, { on := 6, ground := Ground.guard }], guard := some (6, true) } : Oper)) (v := undef) rfl (by kernel_rfl) (by kernel_rfl) (by kernel_rfl) (fun _ _ _ h => h) (Or.inr ⟨by kernel_rfl, rfl⟩) (by assumption) ?_
          try simp only [Act.put, List.setIfInBounds_toArray, List.set_cons_zero, List.set_cons_succ]
          refine wpAnyH_take (i := 9) (oi := ({ dst := some 19, op := Op.pick (Operand.tmp 16) (Operand.tmp 18) (Operand.const (Value.bool false)), type := 4, pos := "l15_exposure.go:96", after := #[{ on := 6, ground := Ground.data }, { on := 8, ground := Ground.data }], guard := none } : Oper)) (v := ?_) rfl (by kernel_rfl) (by kernel_rfl) (by kernel_rfl) (fun _ _ _ h => h) (Or.inl ⟨by kernel_rfl, ?_⟩) (by assumption) ?_
          rotate_left
          · (intro w hSw; (try dsimp only at hSw); go_simp <;> with_reducible rfl)
          try simp only [Act.put, List.setIfInBounds_toArray, List.set_cons_zero, List.set_cons_succ]
          refine wpAnyH_ready (rs := [10]) (by kernel_rfl) (by simp) ?_
          refine AllReadyH.cons (o := ({ dst := some 20, op := Op.call { callee := Callee.value (Operand.func 55), args := #[Operand.tmp 11, Operand.tmp 19], argTypes := #[4, 4] }, type := 2, pos := "l15_exposure.go:96", after := #[{ on := 1, ground := Ground.data }, { on := 9, ground := Ground.data }, { on := 8, ground := Ground.chain }], guard := none } : Oper)) rfl (fun K hK => ?_) ?_
          · go_simp
            (go_at_call 55; refine (CS.out _).mono ?_; rintro e w' ⟨rfl, rfl⟩)
            go_wp2_with fail
            refine hK.out _ _ ?_ (fun hHeld => ?_)
            · (try dsimp only)
              first | done | go_keep
            clear hK K
            try simp only [Act.put, List.setIfInBounds_toArray, List.set_cons_zero, List.set_cons_succ]
            refine wpAnyH_take (i := 11) (oi := ({ dst := some 8, op := Op.assign (Operand.tmp 20), type := 2, pos := "l15_exposure.go:96", after := #[{ on := 10, ground := Ground.data }, { on := 10, ground := Ground.chain }, { on := 0, ground := Ground.phase }, { on := 1, ground := Ground.phase }, { on := 2, ground := Ground.phase }, { on := 3, ground := Ground.phase }, { on := 4, ground := Ground.phase }, { on := 5, ground := Ground.phase }, { on := 6, ground := Ground.phase }, { on := 7, ground := Ground.phase }, { on := 8, ground := Ground.phase }, { on := 9, ground := Ground.phase }, { on := 10, ground := Ground.phase }], guard := none } : Oper)) (v := ?_) rfl (by kernel_rfl) (by kernel_rfl) (by kernel_rfl) (fun _ _ _ h => h) (Or.inl ⟨by kernel_rfl, ?_⟩) (by assumption) ?_
            rotate_left
            · (intro w hSw; (try dsimp only at hSw); go_simp <;> with_reducible rfl)
            try simp only [Act.put, List.setIfInBounds_toArray, List.set_cons_zero, List.set_cons_succ]
            refine wpAnyH_done (by kernel_rfl) ?_ _
            have A1 := Lib.hid (R1.out.all bA0)
            have B3 := Lib.hid (bt HB.out bA0)
            clear bA bA0 y0 y1 y2 y3
            have t0 := A1.out.at_ 0; have t1 := A1.out.at_ 1; have t2 := A1.out.at_ 2; have t3 := A1.out.at_ 3
            have g0 := A1.out.free 0; have g1 := A1.out.free 1; have g2 := A1.out.free 2; have g3 := A1.out.free 3
            go_wp2_with fail
            have W5 := setG_whole A1.out 0 0 0 (.slice none 0 0)
            have B6 := setG_below B3.out (show w.heap.size ≤ w.heap.size + 1 by omega) 0 0 0 (.slice none 0 0)
            have d0 := W5.at_ 0; have d1 := W5.at_ 1; have d2 := W5.at_ 2; have d3 := W5.at_ 3
            unfold setG at d0 d1 d2 d3 B6
            exact bodyPost_ret (v := .tuple #[.agg #[.int .i64 0, .int .i64 0, .int .i64 0, .slice none 0 0], .int .i64 2]) (by simp [results, Try.results25, go_sem, d0, d1, d2, d3]) rfl (RGC.no HE.out (by decide) B6)
          exact AllReadyH.nil
        exact AllReadyH.nil
      exact AllReadyH.nil
    | true =>
      rw [hix] at CI
      cases hby : Ar.inB 0 b 100 with
      | false =>
        have HE : Hid (Gw.raK r c s zs k b = 2) := Lib.hid (by unfold Gw.raK; rw [hok, hcell, hix, hby]; rfl)
        rw [hby] at CB
        have CS := Lib.hid (fun W => CS.out true false W)
        simp only [Cd.cd_tf] at CS
        clear hix hcell hgn G hok hby
        go_enter Try.func25, Try.ntmps25
        go_wp2_with fail
        try rw [hW2]
        refine wp_region_held_drew (S := (fun w' => w'.cell? ⟨w.heap.size, 0, none⟩ = some (.int .i64 r) ∧ w'.cell? ⟨w.heap.size, 1, none⟩ = some (.int .i64 c) ∧ w'.cell? ⟨w.heap.size, 2, none⟩ = some (.int .i64 s) ∧ w'.cell? ⟨w.heap.size, 3, none⟩ = some (.slice (some ⟨g0, 0, none⟩) zs.length cap))) (by kernel_rfl) ?_ (fun hHeld => ?_)
        · (try dsimp only)
          first | done | go_keep
        refine wpAnyH_take (i := 0) (oi := ({ dst := some 10, op := Op.load 29 (Operand.tmp 3), type := 29, pos := "l15_exposure.go:96", after := #[], guard := none } : Oper)) (v := ?_) rfl (by kernel_rfl) (by kernel_rfl) (by kernel_rfl) (fun _ _ _ h => h) (Or.inl ⟨by kernel_rfl, ?_⟩) (by assumption) ?_
        rotate_left
        · (intro w hSw; (try dsimp only at hSw); go_simp <;> with_reducible rfl)
        try simp only [Act.put, List.setIfInBounds_toArray, List.set_cons_zero, List.set_cons_succ]
        refine wpAnyH_take (i := 2) (oi := ({ dst := some 12, op := Op.move (Operand.tmp 1), type := 2, pos := "l15_exposure.go:96", after := #[], guard := none } : Oper)) (v := ?_) rfl (by kernel_rfl) (by kernel_rfl) (by kernel_rfl) (fun _ _ _ h => h) (Or.inl ⟨by kernel_rfl, ?_⟩) (by assumption) ?_
        rotate_left
        · (intro w hSw; (try dsimp only at hSw); go_simp <;> with_reducible rfl)
        try simp only [Act.put, List.setIfInBounds_toArray, List.set_cons_zero, List.set_cons_succ]
        refine wpAnyH_take (i := 3) (oi := ({ dst := some 13, op := Op.fieldAddr 29 (Operand.tmp 3) 3, type := 0, pos := "l15_exposure.go:96", after := #[], guard := none } : Oper)) (v := ?_) rfl (by kernel_rfl) (by kernel_rfl) (by kernel_rfl) (fun _ _ _ h => h) (Or.inl ⟨by kernel_rfl, ?_⟩) (by assumption) ?_
        rotate_left
        · (intro w hSw; (try dsimp only at hSw); go_simp <;> with_reducible rfl)
        try simp only [Act.put, List.setIfInBounds_toArray, List.set_cons_zero, List.set_cons_succ]
        refine wpAnyH_take (i := 4) (oi := ({ dst := some 14, op := Op.load 22 (Operand.tmp 13), type := 22, pos := "l15_exposure.go:96", after := #[{ on := 3, ground := Ground.data }], guard := none } : Oper)) (v := ?_) rfl (by kernel_rfl) (by kernel_rfl) (by kernel_rfl) (fun _ _ _ h => h) (Or.inl ⟨by kernel_rfl, ?_⟩) (by assumption) ?_
        rotate_left
        · (intro w hSw; (try dsimp only at hSw); go_simp <;> with_reducible rfl)
        try simp only [Act.put, List.setIfInBounds_toArray, List.set_cons_zero, List.set_cons_succ]
        refine wpAnyH_ready (rs := [1]) (by kernel_rfl) (by simp) ?_
        refine AllReadyH.cons (o := ({ dst := some 11, op := Op.call { callee := Callee.value (Operand.func 41), args := #[Operand.tmp 10], argTypes := #[29] }, type := 4, pos := "l15_exposure.go:96", after := #[{ on := 0, ground := Ground.data }], guard := none } : Oper)) rfl (fun K hK => ?_) ?_
        · go_simp
          (go_at_call 41; refine (CV.out _ (below_drewW _ 1)).mono ?_; rintro e wA ⟨rfl, bA⟩; have bA0 := bt (below_drewW _ 1) bA; obtain ⟨y0, y1, y2, y3⟩ := (K1.out.all bA0).four)
          go_wp2_with fail
          refine hK.out _ _ ?_ (fun hHeld => ?_)
          · (try dsimp only)
            first | done | go_keep
          clear hK K
          try simp only [Act.put, List.setIfInBounds_toArray, List.set_cons_zero, List.set_cons_succ]
          refine wpAnyH_ready (rs := [5]) (by kernel_rfl) (by simp) ?_
          refine AllReadyH.cons (o := ({ dst := some 15, op := Op.call { callee := Callee.value (Operand.func 56), args := #[Operand.tmp 12, Operand.tmp 14], argTypes := #[2, 22] }, type := 4, pos := "l15_exposure.go:96", after := #[{ on := 2, ground := Ground.data }, { on := 4, ground := Ground.data }, { on := 1, ground := Ground.chain }], guard := none } : Oper)) rfl (fun K hK => ?_) ?_
          · go_simp
            (go_at_call 56; refine (CI.out _).mono ?_; rintro e w' ⟨rfl, rfl⟩)
            go_wp2_with fail
            refine hK.out _ _ ?_ (fun hHeld => ?_)
            · (try dsimp only)
              first | done | go_keep
            clear hK K
            try simp only [Act.put, List.setIfInBounds_toArray, List.set_cons_zero, List.set_cons_succ]
            refine wpAnyH_take (i := 6) (oi := ({ dst := some 16, op := Op.move (Operand.tmp 15), type := 4, pos := "l15_exposure.go:96", after := #[{ on := 5, ground := Ground.data }, { on := 5, ground := Ground.chain }], guard := none } : Oper)) (v := ?_) rfl (by kernel_rfl) (by kernel_rfl) (by kernel_rfl) (fun _ _ _ h => h) (Or.inl ⟨by kernel_rfl, ?_⟩) (by assumption) ?_
            rotate_left
            · (intro w hSw; (try dsimp only at hSw); go_simp <;> with_reducible rfl)
            try simp only [Act.put, List.setIfInBounds_toArray, List.set_cons_zero, List.set_cons_succ]
            refine wpAnyH_take (i := 7) (oi := ({ dst := some 17, op := Op.move (Operand.tmp 2), type := 2, pos := "l15_exposure.go:96", after := #[{ on := 6, ground := Ground.guard }], guard := some (6, true) } : Oper)) (v := ?_) rfl (by kernel_rfl) (by kernel_rfl) (by kernel_rfl) (fun _ _ _ h => h) (Or.inl ⟨by kernel_rfl, ?_⟩) (by assumption) ?_
            rotate_left
            · (intro w hSw; (try dsimp only at hSw); go_simp <;> with_reducible rfl)
            try simp only [Act.put, List.setIfInBounds_toArray, List.set_cons_zero, List.set_cons_succ]
            refine wpAnyH_ready (rs := [8]) (by kernel_rfl) (by simp) ?_
            refine AllReadyH.cons (o := ({ dst := some 18, op := Op.call { callee := Callee.value (Operand.func 57), args := #[Operand.tmp 17], argTypes := #[2] }, type := 4, pos := "l15_exposure.go:96", after := #[{ on := 7, ground := Ground.data }, { on := 6, ground := Ground.chain }, { on := 6, ground := Ground.guard }], guard := some (6, true) } : Oper)) rfl (fun K hK => ?_) ?_
            · go_simp
              (go_at_call 57; refine (CB.out _).mono ?_; rintro e w' ⟨rfl, rfl⟩)
              go_wp2_with fail
              refine hK.out _ _ ?_ (fun hHeld => ?_)
              · (try dsimp only)
                first | done | go_keep
              clear hK K
              try simp only [Act.put, List.setIfInBounds_toArray, List.set_cons_zero, List.set_cons_succ]
              refine wpAnyH_take (i := 9) (oi := ({ dst := some 19, op := Op.pick (Operand.tmp 16) (Operand.tmp 18) (Operand.const (Value.bool false)), type := 4, pos := "l15_exposure.go:96", after := #[{ on := 6, ground := Ground.data }, { on := 8, ground := Ground.data }], guard := none } : Oper)) (v := ?_) rfl (by kernel_rfl) (by kernel_rfl) (by kernel_rfl) (fun _ _ _ h => h) (Or.inl ⟨by kernel_rfl, ?_⟩) (by assumption) ?_
              rotate_left
              · (intro w hSw; (try dsimp only at hSw); go_simp <;> with_reducible rfl)
              try simp only [Act.put, List.setIfInBounds_toArray, List.set_cons_zero, List.set_cons_succ]
              refine wpAnyH_ready (rs := [10]) (by kernel_rfl) (by simp) ?_
              refine AllReadyH.cons (o := ({ dst := some 20, op := Op.call { callee := Callee.value (Operand.func 55), args := #[Operand.tmp 11, Operand.tmp 19], argTypes := #[4, 4] }, type := 2, pos := "l15_exposure.go:96", after := #[{ on := 1, ground := Ground.data }, { on := 9, ground := Ground.data }, { on := 8, ground := Ground.chain }], guard := none } : Oper)) rfl (fun K hK => ?_) ?_
              · go_simp
                (go_at_call 55; refine (CS.out _).mono ?_; rintro e w' ⟨rfl, rfl⟩)
                go_wp2_with fail
                refine hK.out _ _ ?_ (fun hHeld => ?_)
                · (try dsimp only)
                  first | done | go_keep
                clear hK K
                try simp only [Act.put, List.setIfInBounds_toArray, List.set_cons_zero, List.set_cons_succ]
                refine wpAnyH_take (i := 11) (oi := ({ dst := some 8, op := Op.assign (Operand.tmp 20), type := 2, pos := "l15_exposure.go:96", after := #[{ on := 10, ground := Ground.data }, { on := 10, ground := Ground.chain }, { on := 0, ground := Ground.phase }, { on := 1, ground := Ground.phase }, { on := 2, ground := Ground.phase }, { on := 3, ground := Ground.phase }, { on := 4, ground := Ground.phase }, { on := 5, ground := Ground.phase }, { on := 6, ground := Ground.phase }, { on := 7, ground := Ground.phase }, { on := 8, ground := Ground.phase }, { on := 9, ground := Ground.phase }, { on := 10, ground := Ground.phase }], guard := none } : Oper)) (v := ?_) rfl (by kernel_rfl) (by kernel_rfl) (by kernel_rfl) (fun _ _ _ h => h) (Or.inl ⟨by kernel_rfl, ?_⟩) (by assumption) ?_
                rotate_left
                · (intro w hSw; (try dsimp only at hSw); go_simp <;> with_reducible rfl)
                try simp only [Act.put, List.setIfInBounds_toArray, List.set_cons_zero, List.set_cons_succ]
                refine wpAnyH_done (by kernel_rfl) ?_ _
                have A1 := Lib.hid (R1.out.all bA0)
                have B3 := Lib.hid (bt HB.out bA0)
                clear bA bA0 y0 y1 y2 y3
                have t0 := A1.out.at_ 0; have t1 := A1.out.at_ 1; have t2 := A1.out.at_ 2; have t3 := A1.out.at_ 3
                have g0 := A1.out.free 0; have g1 := A1.out.free 1; have g2 := A1.out.free 2; have g3 := A1.out.free 3
                go_wp2_with fail
                have W5 := setG_whole A1.out 0 0 0 (.slice none 0 0)
                have B6 := setG_below B3.out (show w.heap.size ≤ w.heap.size + 1 by omega) 0 0 0 (.slice none 0 0)
                have d0 := W5.at_ 0; have d1 := W5.at_ 1; have d2 := W5.at_ 2; have d3 := W5.at_ 3
                unfold setG at d0 d1 d2 d3 B6
                exact bodyPost_ret (v := .tuple #[.agg #[.int .i64 0, .int .i64 0, .int .i64 0, .slice none 0 0], .int .i64 2]) (by simp [results, Try.results25, go_sem, d0, d1, d2, d3]) rfl (RGC.no HE.out (by decide) B6)
              exact AllReadyH.nil
            exact AllReadyH.nil
          exact AllReadyH.nil
        exact AllReadyH.nil
      | true =>
        obtain ⟨hb1, hb2⟩ := Gw.inB_iff.1 hby
        have hkc := Gw.inB_iff.1 hix
        obtain ⟨kn, rfl⟩ : ∃ kn : Nat, k = (kn : Int) := ⟨k.toNat, (Int.toNat_of_nonneg hkc.1).symm⟩
        have hkn : kn < zs.length := by omega
        have hzk := G.h zs[kn] (List.getElem_mem hkn)
        have hsum : zs.getD kn 0 = zs[kn] := by rw [List.getD_eq_getElem?_getD, List.getElem?_eq_getElem hkn]; rfl
        rw [hby] at CB
        have CS := Lib.hid (fun W => CS.out true true W)
        simp only [Cd.cd_t] at CS
        have HKE : Hid (Gw.raK r c s zs kn b = if 5000 < zs[kn] + b then 6 else 0) := Lib.hid (by unfold Gw.raK; rw [hok, hcell, hix, hby, Int.toNat_natCast, hsum]; rfl)
        have hwr : IntKind.i64.wrap (zs[kn] + b) = zs[kn] + b := IntWalk.i64_in _ ⟨by omega, by omega⟩
        have hknz : (kn : Int) < (zs.length : Int) := by omega
        have HZ : Hid (zs.set ((kn : Int).toNat) (zs.getD ((kn : Int).toNat) 0 + b) = zs.set kn (zs[kn] + b)) := Lib.hid (by rw [Int.toNat_natCast, hsum])
        have HOK0 := Lib.hid (Gw.ok_set hok kn (zs[kn] + b) (by omega) hkn)
        have HYK := Lib.hid (List.getElem?_eq_getElem hkn)
        have HKN := Lib.hid hkn
        clear hix hcell hgn G hok hby hkc hsum hzk
        generalize zs[kn] = y at *
        clear hkn
        by_cases h5 : y + b ≤ 5000
        · have HE : Hid (Gw.raK r c s zs kn b = 0) := Lib.hid (by rw [HKE.out, if_neg (by omega)])
          have HOK : Hid (Gw.ok r c s (zs.set kn (y + b)) = true) := Lib.hid (by rw [HOK0.out]; exact decide_eq_true h5)
          clear HKE HOK0
          go_enter Try.func25, Try.ntmps25
          go_wp2_with fail
          try rw [hW2]
          refine wp_region_held_drew (S := (fun w' => w'.cell? ⟨w.heap.size, 0, none⟩ = some (.int .i64 r) ∧ w'.cell? ⟨w.heap.size, 1, none⟩ = some (.int .i64 c) ∧ w'.cell? ⟨w.heap.size, 2, none⟩ = some (.int .i64 s) ∧ w'.cell? ⟨w.heap.size, 3, none⟩ = some (.slice (some ⟨g0, 0, none⟩) zs.length cap))) (by kernel_rfl) ?_ (fun hHeld => ?_)
          · (try dsimp only)
            first | done | go_keep
          refine wpAnyH_take (i := 0) (oi := ({ dst := some 10, op := Op.load 29 (Operand.tmp 3), type := 29, pos := "l15_exposure.go:96", after := #[], guard := none } : Oper)) (v := ?_) rfl (by kernel_rfl) (by kernel_rfl) (by kernel_rfl) (fun _ _ _ h => h) (Or.inl ⟨by kernel_rfl, ?_⟩) (by assumption) ?_
          rotate_left
          · (intro w hSw; (try dsimp only at hSw); go_simp <;> with_reducible rfl)
          try simp only [Act.put, List.setIfInBounds_toArray, List.set_cons_zero, List.set_cons_succ]
          refine wpAnyH_take (i := 2) (oi := ({ dst := some 12, op := Op.move (Operand.tmp 1), type := 2, pos := "l15_exposure.go:96", after := #[], guard := none } : Oper)) (v := ?_) rfl (by kernel_rfl) (by kernel_rfl) (by kernel_rfl) (fun _ _ _ h => h) (Or.inl ⟨by kernel_rfl, ?_⟩) (by assumption) ?_
          rotate_left
          · (intro w hSw; (try dsimp only at hSw); go_simp <;> with_reducible rfl)
          try simp only [Act.put, List.setIfInBounds_toArray, List.set_cons_zero, List.set_cons_succ]
          refine wpAnyH_take (i := 3) (oi := ({ dst := some 13, op := Op.fieldAddr 29 (Operand.tmp 3) 3, type := 0, pos := "l15_exposure.go:96", after := #[], guard := none } : Oper)) (v := ?_) rfl (by kernel_rfl) (by kernel_rfl) (by kernel_rfl) (fun _ _ _ h => h) (Or.inl ⟨by kernel_rfl, ?_⟩) (by assumption) ?_
          rotate_left
          · (intro w hSw; (try dsimp only at hSw); go_simp <;> with_reducible rfl)
          try simp only [Act.put, List.setIfInBounds_toArray, List.set_cons_zero, List.set_cons_succ]
          refine wpAnyH_take (i := 4) (oi := ({ dst := some 14, op := Op.load 22 (Operand.tmp 13), type := 22, pos := "l15_exposure.go:96", after := #[{ on := 3, ground := Ground.data }], guard := none } : Oper)) (v := ?_) rfl (by kernel_rfl) (by kernel_rfl) (by kernel_rfl) (fun _ _ _ h => h) (Or.inl ⟨by kernel_rfl, ?_⟩) (by assumption) ?_
          rotate_left
          · (intro w hSw; (try dsimp only at hSw); go_simp <;> with_reducible rfl)
          try simp only [Act.put, List.setIfInBounds_toArray, List.set_cons_zero, List.set_cons_succ]
          refine wpAnyH_ready (rs := [1]) (by kernel_rfl) (by simp) ?_
          refine AllReadyH.cons (o := ({ dst := some 11, op := Op.call { callee := Callee.value (Operand.func 41), args := #[Operand.tmp 10], argTypes := #[29] }, type := 4, pos := "l15_exposure.go:96", after := #[{ on := 0, ground := Ground.data }], guard := none } : Oper)) rfl (fun K hK => ?_) ?_
          · go_simp
            (go_at_call 41; refine (CV.out _ (below_drewW _ 1)).mono ?_; rintro e wA ⟨rfl, bA⟩; have bA0 := bt (below_drewW _ 1) bA; obtain ⟨y0, y1, y2, y3⟩ := (K1.out.all bA0).four)
            go_wp2_with fail
            refine hK.out _ _ ?_ (fun hHeld => ?_)
            · (try dsimp only)
              first | done | go_keep
            clear hK K
            try simp only [Act.put, List.setIfInBounds_toArray, List.set_cons_zero, List.set_cons_succ]
            refine wpAnyH_ready (rs := [5]) (by kernel_rfl) (by simp) ?_
            refine AllReadyH.cons (o := ({ dst := some 15, op := Op.call { callee := Callee.value (Operand.func 56), args := #[Operand.tmp 12, Operand.tmp 14], argTypes := #[2, 22] }, type := 4, pos := "l15_exposure.go:96", after := #[{ on := 2, ground := Ground.data }, { on := 4, ground := Ground.data }, { on := 1, ground := Ground.chain }], guard := none } : Oper)) rfl (fun K hK => ?_) ?_
            · go_simp
              (go_at_call 56; refine (CI.out _).mono ?_; rintro e w' ⟨rfl, rfl⟩)
              go_wp2_with fail
              refine hK.out _ _ ?_ (fun hHeld => ?_)
              · (try dsimp only)
                first | done | go_keep
              clear hK K
              try simp only [Act.put, List.setIfInBounds_toArray, List.set_cons_zero, List.set_cons_succ]
              refine wpAnyH_take (i := 6) (oi := ({ dst := some 16, op := Op.move (Operand.tmp 15), type := 4, pos := "l15_exposure.go:96", after := #[{ on := 5, ground := Ground.data }, { on := 5, ground := Ground.chain }], guard := none } : Oper)) (v := ?_) rfl (by kernel_rfl) (by kernel_rfl) (by kernel_rfl) (fun _ _ _ h => h) (Or.inl ⟨by kernel_rfl, ?_⟩) (by assumption) ?_
              rotate_left
              · (intro w hSw; (try dsimp only at hSw); go_simp <;> with_reducible rfl)
              try simp only [Act.put, List.setIfInBounds_toArray, List.set_cons_zero, List.set_cons_succ]
              refine wpAnyH_take (i := 7) (oi := ({ dst := some 17, op := Op.move (Operand.tmp 2), type := 2, pos := "l15_exposure.go:96", after := #[{ on := 6, ground := Ground.guard }], guard := some (6, true) } : Oper)) (v := ?_) rfl (by kernel_rfl) (by kernel_rfl) (by kernel_rfl) (fun _ _ _ h => h) (Or.inl ⟨by kernel_rfl, ?_⟩) (by assumption) ?_
              rotate_left
              · (intro w hSw; (try dsimp only at hSw); go_simp <;> with_reducible rfl)
              try simp only [Act.put, List.setIfInBounds_toArray, List.set_cons_zero, List.set_cons_succ]
              refine wpAnyH_ready (rs := [8]) (by kernel_rfl) (by simp) ?_
              refine AllReadyH.cons (o := ({ dst := some 18, op := Op.call { callee := Callee.value (Operand.func 57), args := #[Operand.tmp 17], argTypes := #[2] }, type := 4, pos := "l15_exposure.go:96", after := #[{ on := 7, ground := Ground.data }, { on := 6, ground := Ground.chain }, { on := 6, ground := Ground.guard }], guard := some (6, true) } : Oper)) rfl (fun K hK => ?_) ?_
              · go_simp
                (go_at_call 57; refine (CB.out _).mono ?_; rintro e w' ⟨rfl, rfl⟩)
                go_wp2_with fail
                refine hK.out _ _ ?_ (fun hHeld => ?_)
                · (try dsimp only)
                  first | done | go_keep
                clear hK K
                try simp only [Act.put, List.setIfInBounds_toArray, List.set_cons_zero, List.set_cons_succ]
                refine wpAnyH_take (i := 9) (oi := ({ dst := some 19, op := Op.pick (Operand.tmp 16) (Operand.tmp 18) (Operand.const (Value.bool false)), type := 4, pos := "l15_exposure.go:96", after := #[{ on := 6, ground := Ground.data }, { on := 8, ground := Ground.data }], guard := none } : Oper)) (v := ?_) rfl (by kernel_rfl) (by kernel_rfl) (by kernel_rfl) (fun _ _ _ h => h) (Or.inl ⟨by kernel_rfl, ?_⟩) (by assumption) ?_
                rotate_left
                · (intro w hSw; (try dsimp only at hSw); go_simp <;> with_reducible rfl)
                try simp only [Act.put, List.setIfInBounds_toArray, List.set_cons_zero, List.set_cons_succ]
                refine wpAnyH_ready (rs := [10]) (by kernel_rfl) (by simp) ?_
                refine AllReadyH.cons (o := ({ dst := some 20, op := Op.call { callee := Callee.value (Operand.func 55), args := #[Operand.tmp 11, Operand.tmp 19], argTypes := #[4, 4] }, type := 2, pos := "l15_exposure.go:96", after := #[{ on := 1, ground := Ground.data }, { on := 9, ground := Ground.data }, { on := 8, ground := Ground.chain }], guard := none } : Oper)) rfl (fun K hK => ?_) ?_
                · go_simp
                  (go_at_call 55; refine (CS.out _).mono ?_; rintro e w' ⟨rfl, rfl⟩)
                  go_wp2_with fail
                  refine hK.out _ _ ?_ (fun hHeld => ?_)
                  · (try dsimp only)
                    first | done | go_keep
                  clear hK K
                  try simp only [Act.put, List.setIfInBounds_toArray, List.set_cons_zero, List.set_cons_succ]
                  refine wpAnyH_take (i := 11) (oi := ({ dst := some 8, op := Op.assign (Operand.tmp 20), type := 2, pos := "l15_exposure.go:96", after := #[{ on := 10, ground := Ground.data }, { on := 10, ground := Ground.chain }, { on := 0, ground := Ground.phase }, { on := 1, ground := Ground.phase }, { on := 2, ground := Ground.phase }, { on := 3, ground := Ground.phase }, { on := 4, ground := Ground.phase }, { on := 5, ground := Ground.phase }, { on := 6, ground := Ground.phase }, { on := 7, ground := Ground.phase }, { on := 8, ground := Ground.phase }, { on := 9, ground := Ground.phase }, { on := 10, ground := Ground.phase }], guard := none } : Oper)) (v := ?_) rfl (by kernel_rfl) (by kernel_rfl) (by kernel_rfl) (fun _ _ _ h => h) (Or.inl ⟨by kernel_rfl, ?_⟩) (by assumption) ?_
                  rotate_left
                  · (intro w hSw; (try dsimp only at hSw); go_simp <;> with_reducible rfl)
                  try simp only [Act.put, List.setIfInBounds_toArray, List.set_cons_zero, List.set_cons_succ]
                  refine wpAnyH_done (by kernel_rfl) ?_ _
                  have A1 := Lib.hid (R1.out.all bA0)
                  have KA := Lib.hid (K1.out.all bA0)
                  have B3 := Lib.hid (bt HB.out bA0)
                  have HOA := Lib.hid (HO.out.belowAll bA0)
                  clear bA bA0 CV CI CS CB
                  have hsA : w.heap.size + 1 < wA.heap.size := A1.out.lt
                  have BX := Lib.hid (boxG_below wA r c s (.slice (some ⟨g0, 0, none⟩) zs.length cap) 29)
                  have hsX := boxG_size wA r c s (.slice (some ⟨g0, 0, none⟩) zs.length cap) 29
                  have CC := Lib.hid (cloneI_at Bo g0 cap (boxG wA r c s (.slice (some ⟨g0, 0, none⟩) zs.length cap) 29) zs (HOA.out.belowAll BX.out) hl)
                  have X1 := Lib.hid (Whole.new wA 29 #[.int .i64 r, .int .i64 c, .int .i64 s, .slice (some ⟨g0, 0, none⟩) zs.length cap])
                  have HSX := Lib.hid hsX
                  have hl0 := (KA.out).lt
                  clear hsX
                  go_wp2_with fail
                  refine CC.out.mono ?_
                  rintro e w5 ⟨g, gcap, rfl, o5, b5⟩
                  have gl := World.ownsRow.lt o5 g rfl
                  have X5 := Whole.all (w := boxG wA r c s (.slice (some ⟨g0, 0, none⟩) zs.length cap) 29) X1.out b5
                  have R5 := (A1.out.all BX.out).all b5
                  have c4 : w5.cell? ⟨g, kn, none⟩ = some (.int .i64 y) := by rw [o5.cellAt kn (by have := HKN.out; omega)]; exact iv_at (HYK.out)
                  have f4 := o5.frozenAt kn
                  have z0 := X5.at_ 0; have z1 := X5.at_ 1; have z2 := X5.at_ 2; have z3 := X5.at_ 3
                  have e3 := X5.free 3
                  have hgA : wA.heap.size ≠ g := by have := HSX.out; omega
                  have hgw : w.heap.size + 1 ≠ g := by have := HSX.out; omega
                  have G1 : Hid (w5.grownBy (w5.setCell ⟨wA.heap.size, 3, none⟩ (.slice (some ⟨g, 0, none⟩) zs.length gcap)) (some wA.heap.size)) := Lib.hid (only_setCell (p := ⟨wA.heap.size, 3, none⟩) (World.grownBy.refl _ _) rfl _)
                  have O6 := Lib.hid (own_set (own_other o5 G1.out (fun e => hgA e.symm)) kn (y + b))
                  have G2 := Lib.hid (only_setCell (p := ⟨g, kn, none⟩) (World.grownBy.refl (w5.setCell ⟨wA.heap.size, 3, none⟩ (.slice (some ⟨g, 0, none⟩) zs.length gcap)) (some g)) rfl (.int .i64 (y + b)))
                  have X6 : Hid (Whole ((w5.setCell ⟨wA.heap.size, 3, none⟩ (.slice (some ⟨g, 0, none⟩) zs.length gcap)).setCell ⟨g, kn, none⟩ (.int .i64 (y + b))) wA.heap.size 29 #[.int .i64 r, .int .i64 c, .int .i64 s, .slice (some ⟨g, 0, none⟩) zs.length gcap]) := Lib.hid (by have := (X5.put 3 (.slice (some ⟨g, 0, none⟩) zs.length gcap)).far G2.out hgA; simpa using this)
                  have R6 := Lib.hid ((R5.far G1.out (by omega)).far G2.out hgw)
                  have B5 := Lib.hid (bt (bt B3.out BX.out) b5)
                  have B6 := Lib.hid ((B5.out.setCell (p := ⟨wA.heap.size, 3, none⟩) (by simp; omega) (.slice (some ⟨g, 0, none⟩) zs.length gcap)).setCell (p := ⟨g, kn, none⟩) (by have := HSX.out; simp; omega) (.int .i64 (y + b)))
                  have CV := Lib.hid (implValidGrid_any ((w5.setCell ⟨wA.heap.size, 3, none⟩ (.slice (some ⟨g, 0, none⟩) zs.length gcap)).setCell ⟨g, kn, none⟩ (.int .i64 (y + b))) r c s (.slice (some ⟨g, 0, none⟩) zs.length gcap) (zs.set kn (y + b)) (Own.sl O6.out) (by rw [List.length_set]; exact hl))
                  rw [HOK.out] at CV
                  have hgx := gl.2
                  have HGA := Lib.hid gl.1
                  clear o5 b5 CC X5 R5 gl y0 y1 y2 y3 hwl hwl2
                  go_wp2_with fail
                  refine CV.out.mono ?_
                  rintro e w7 ⟨rfl, b7⟩
                  have B7 := Lib.hid (bt B6.out b7)
                  have A7 := Lib.hid (R6.out.all b7)
                  have X7 := X6.out.all b7
                  have O7 := Lib.hid (O6.out.belowAll b7)
                  have z0 := X7.at_ 0; have z1 := X7.at_ 1; have z2 := X7.at_ 2; have z3 := X7.at_ 3
                  have t0 := A7.out.at_ 0; have t1 := A7.out.at_ 1; have t2 := A7.out.at_ 2; have t3 := A7.out.at_ 3
                  have g0' := A7.out.free 0; have g1 := A7.out.free 1; have g2 := A7.out.free 2; have g3 := A7.out.free 3
                  clear b7 X7 CV
                  go_wp2_with fail
                  have W5 := setG_whole A7.out r c s (.slice (some ⟨g, 0, none⟩) zs.length gcap)
                  have B8 := setG_below B7.out (show w.heap.size ≤ w.heap.size + 1 by omega) r c s (.slice (some ⟨g, 0, none⟩) zs.length gcap)
                  have O8 := World.ownsRow.kept O7.out (setG_only _ (w.heap.size + 1) r c s (.slice (some ⟨g, 0, none⟩) zs.length gcap)) (Or.inr (by simp [Value.ownBlock]; omega))
                  have d0 := W5.at_ 0; have d1 := W5.at_ 1; have d2 := W5.at_ 2; have d3 := W5.at_ 3
                  unfold setG at d0 d1 d2 d3 B8 O8
                  exact bodyPost_ret (v := .tuple #[.agg #[.int .i64 r, .int .i64 c, .int .i64 s, .slice (some ⟨g, 0, none⟩) zs.length gcap], .int .i64 0]) (by simp [results, Try.results25, go_sem, d0, d1, d2, d3]) rfl (RGC.yes HE.out rfl (by rw [HZ.out]; exact Own.le O8 (by have := HGA.out; have := HSX.out; omega)) B8)
                exact AllReadyH.nil
              exact AllReadyH.nil
            exact AllReadyH.nil
          exact AllReadyH.nil
        · have HE : Hid (Gw.raK r c s zs kn b = 6) := Lib.hid (by rw [HKE.out, if_pos (by omega)])
          have HOK : Hid (Gw.ok r c s (zs.set kn (y + b)) = false) := Lib.hid (by rw [HOK0.out]; exact decide_eq_false h5)
          clear HKE HOK0
          go_enter Try.func25, Try.ntmps25
          go_wp2_with fail
          try rw [hW2]
          refine wp_region_held_drew (S := (fun w' => w'.cell? ⟨w.heap.size, 0, none⟩ = some (.int .i64 r) ∧ w'.cell? ⟨w.heap.size, 1, none⟩ = some (.int .i64 c) ∧ w'.cell? ⟨w.heap.size, 2, none⟩ = some (.int .i64 s) ∧ w'.cell? ⟨w.heap.size, 3, none⟩ = some (.slice (some ⟨g0, 0, none⟩) zs.length cap))) (by kernel_rfl) ?_ (fun hHeld => ?_)
          · (try dsimp only)
            first | done | go_keep
          refine wpAnyH_take (i := 0) (oi := ({ dst := some 10, op := Op.load 29 (Operand.tmp 3), type := 29, pos := "l15_exposure.go:96", after := #[], guard := none } : Oper)) (v := ?_) rfl (by kernel_rfl) (by kernel_rfl) (by kernel_rfl) (fun _ _ _ h => h) (Or.inl ⟨by kernel_rfl, ?_⟩) (by assumption) ?_
          rotate_left
          · (intro w hSw; (try dsimp only at hSw); go_simp <;> with_reducible rfl)
          try simp only [Act.put, List.setIfInBounds_toArray, List.set_cons_zero, List.set_cons_succ]
          refine wpAnyH_take (i := 2) (oi := ({ dst := some 12, op := Op.move (Operand.tmp 1), type := 2, pos := "l15_exposure.go:96", after := #[], guard := none } : Oper)) (v := ?_) rfl (by kernel_rfl) (by kernel_rfl) (by kernel_rfl) (fun _ _ _ h => h) (Or.inl ⟨by kernel_rfl, ?_⟩) (by assumption) ?_
          rotate_left
          · (intro w hSw; (try dsimp only at hSw); go_simp <;> with_reducible rfl)
          try simp only [Act.put, List.setIfInBounds_toArray, List.set_cons_zero, List.set_cons_succ]
          refine wpAnyH_take (i := 3) (oi := ({ dst := some 13, op := Op.fieldAddr 29 (Operand.tmp 3) 3, type := 0, pos := "l15_exposure.go:96", after := #[], guard := none } : Oper)) (v := ?_) rfl (by kernel_rfl) (by kernel_rfl) (by kernel_rfl) (fun _ _ _ h => h) (Or.inl ⟨by kernel_rfl, ?_⟩) (by assumption) ?_
          rotate_left
          · (intro w hSw; (try dsimp only at hSw); go_simp <;> with_reducible rfl)
          try simp only [Act.put, List.setIfInBounds_toArray, List.set_cons_zero, List.set_cons_succ]
          refine wpAnyH_take (i := 4) (oi := ({ dst := some 14, op := Op.load 22 (Operand.tmp 13), type := 22, pos := "l15_exposure.go:96", after := #[{ on := 3, ground := Ground.data }], guard := none } : Oper)) (v := ?_) rfl (by kernel_rfl) (by kernel_rfl) (by kernel_rfl) (fun _ _ _ h => h) (Or.inl ⟨by kernel_rfl, ?_⟩) (by assumption) ?_
          rotate_left
          · (intro w hSw; (try dsimp only at hSw); go_simp <;> with_reducible rfl)
          try simp only [Act.put, List.setIfInBounds_toArray, List.set_cons_zero, List.set_cons_succ]
          refine wpAnyH_ready (rs := [1]) (by kernel_rfl) (by simp) ?_
          refine AllReadyH.cons (o := ({ dst := some 11, op := Op.call { callee := Callee.value (Operand.func 41), args := #[Operand.tmp 10], argTypes := #[29] }, type := 4, pos := "l15_exposure.go:96", after := #[{ on := 0, ground := Ground.data }], guard := none } : Oper)) rfl (fun K hK => ?_) ?_
          · go_simp
            (go_at_call 41; refine (CV.out _ (below_drewW _ 1)).mono ?_; rintro e wA ⟨rfl, bA⟩; have bA0 := bt (below_drewW _ 1) bA; obtain ⟨y0, y1, y2, y3⟩ := (K1.out.all bA0).four)
            go_wp2_with fail
            refine hK.out _ _ ?_ (fun hHeld => ?_)
            · (try dsimp only)
              first | done | go_keep
            clear hK K
            try simp only [Act.put, List.setIfInBounds_toArray, List.set_cons_zero, List.set_cons_succ]
            refine wpAnyH_ready (rs := [5]) (by kernel_rfl) (by simp) ?_
            refine AllReadyH.cons (o := ({ dst := some 15, op := Op.call { callee := Callee.value (Operand.func 56), args := #[Operand.tmp 12, Operand.tmp 14], argTypes := #[2, 22] }, type := 4, pos := "l15_exposure.go:96", after := #[{ on := 2, ground := Ground.data }, { on := 4, ground := Ground.data }, { on := 1, ground := Ground.chain }], guard := none } : Oper)) rfl (fun K hK => ?_) ?_
            · go_simp
              (go_at_call 56; refine (CI.out _).mono ?_; rintro e w' ⟨rfl, rfl⟩)
              go_wp2_with fail
              refine hK.out _ _ ?_ (fun hHeld => ?_)
              · (try dsimp only)
                first | done | go_keep
              clear hK K
              try simp only [Act.put, List.setIfInBounds_toArray, List.set_cons_zero, List.set_cons_succ]
              refine wpAnyH_take (i := 6) (oi := ({ dst := some 16, op := Op.move (Operand.tmp 15), type := 4, pos := "l15_exposure.go:96", after := #[{ on := 5, ground := Ground.data }, { on := 5, ground := Ground.chain }], guard := none } : Oper)) (v := ?_) rfl (by kernel_rfl) (by kernel_rfl) (by kernel_rfl) (fun _ _ _ h => h) (Or.inl ⟨by kernel_rfl, ?_⟩) (by assumption) ?_
              rotate_left
              · (intro w hSw; (try dsimp only at hSw); go_simp <;> with_reducible rfl)
              try simp only [Act.put, List.setIfInBounds_toArray, List.set_cons_zero, List.set_cons_succ]
              refine wpAnyH_take (i := 7) (oi := ({ dst := some 17, op := Op.move (Operand.tmp 2), type := 2, pos := "l15_exposure.go:96", after := #[{ on := 6, ground := Ground.guard }], guard := some (6, true) } : Oper)) (v := ?_) rfl (by kernel_rfl) (by kernel_rfl) (by kernel_rfl) (fun _ _ _ h => h) (Or.inl ⟨by kernel_rfl, ?_⟩) (by assumption) ?_
              rotate_left
              · (intro w hSw; (try dsimp only at hSw); go_simp <;> with_reducible rfl)
              try simp only [Act.put, List.setIfInBounds_toArray, List.set_cons_zero, List.set_cons_succ]
              refine wpAnyH_ready (rs := [8]) (by kernel_rfl) (by simp) ?_
              refine AllReadyH.cons (o := ({ dst := some 18, op := Op.call { callee := Callee.value (Operand.func 57), args := #[Operand.tmp 17], argTypes := #[2] }, type := 4, pos := "l15_exposure.go:96", after := #[{ on := 7, ground := Ground.data }, { on := 6, ground := Ground.chain }, { on := 6, ground := Ground.guard }], guard := some (6, true) } : Oper)) rfl (fun K hK => ?_) ?_
              · go_simp
                (go_at_call 57; refine (CB.out _).mono ?_; rintro e w' ⟨rfl, rfl⟩)
                go_wp2_with fail
                refine hK.out _ _ ?_ (fun hHeld => ?_)
                · (try dsimp only)
                  first | done | go_keep
                clear hK K
                try simp only [Act.put, List.setIfInBounds_toArray, List.set_cons_zero, List.set_cons_succ]
                refine wpAnyH_take (i := 9) (oi := ({ dst := some 19, op := Op.pick (Operand.tmp 16) (Operand.tmp 18) (Operand.const (Value.bool false)), type := 4, pos := "l15_exposure.go:96", after := #[{ on := 6, ground := Ground.data }, { on := 8, ground := Ground.data }], guard := none } : Oper)) (v := ?_) rfl (by kernel_rfl) (by kernel_rfl) (by kernel_rfl) (fun _ _ _ h => h) (Or.inl ⟨by kernel_rfl, ?_⟩) (by assumption) ?_
                rotate_left
                · (intro w hSw; (try dsimp only at hSw); go_simp <;> with_reducible rfl)
                try simp only [Act.put, List.setIfInBounds_toArray, List.set_cons_zero, List.set_cons_succ]
                refine wpAnyH_ready (rs := [10]) (by kernel_rfl) (by simp) ?_
                refine AllReadyH.cons (o := ({ dst := some 20, op := Op.call { callee := Callee.value (Operand.func 55), args := #[Operand.tmp 11, Operand.tmp 19], argTypes := #[4, 4] }, type := 2, pos := "l15_exposure.go:96", after := #[{ on := 1, ground := Ground.data }, { on := 9, ground := Ground.data }, { on := 8, ground := Ground.chain }], guard := none } : Oper)) rfl (fun K hK => ?_) ?_
                · go_simp
                  (go_at_call 55; refine (CS.out _).mono ?_; rintro e w' ⟨rfl, rfl⟩)
                  go_wp2_with fail
                  refine hK.out _ _ ?_ (fun hHeld => ?_)
                  · (try dsimp only)
                    first | done | go_keep
                  clear hK K
                  try simp only [Act.put, List.setIfInBounds_toArray, List.set_cons_zero, List.set_cons_succ]
                  refine wpAnyH_take (i := 11) (oi := ({ dst := some 8, op := Op.assign (Operand.tmp 20), type := 2, pos := "l15_exposure.go:96", after := #[{ on := 10, ground := Ground.data }, { on := 10, ground := Ground.chain }, { on := 0, ground := Ground.phase }, { on := 1, ground := Ground.phase }, { on := 2, ground := Ground.phase }, { on := 3, ground := Ground.phase }, { on := 4, ground := Ground.phase }, { on := 5, ground := Ground.phase }, { on := 6, ground := Ground.phase }, { on := 7, ground := Ground.phase }, { on := 8, ground := Ground.phase }, { on := 9, ground := Ground.phase }, { on := 10, ground := Ground.phase }], guard := none } : Oper)) (v := ?_) rfl (by kernel_rfl) (by kernel_rfl) (by kernel_rfl) (fun _ _ _ h => h) (Or.inl ⟨by kernel_rfl, ?_⟩) (by assumption) ?_
                  rotate_left
                  · (intro w hSw; (try dsimp only at hSw); go_simp <;> with_reducible rfl)
                  try simp only [Act.put, List.setIfInBounds_toArray, List.set_cons_zero, List.set_cons_succ]
                  refine wpAnyH_done (by kernel_rfl) ?_ _
                  have A1 := Lib.hid (R1.out.all bA0)
                  have KA := Lib.hid (K1.out.all bA0)
                  have B3 := Lib.hid (bt HB.out bA0)
                  have HOA := Lib.hid (HO.out.belowAll bA0)
                  clear bA bA0 CV CI CS CB
                  have hsA : w.heap.size + 1 < wA.heap.size := A1.out.lt
                  have BX := Lib.hid (boxG_below wA r c s (.slice (some ⟨g0, 0, none⟩) zs.length cap) 29)
                  have hsX := boxG_size wA r c s (.slice (some ⟨g0, 0, none⟩) zs.length cap) 29
                  have CC := Lib.hid (cloneI_at Bo g0 cap (boxG wA r c s (.slice (some ⟨g0, 0, none⟩) zs.length cap) 29) zs (HOA.out.belowAll BX.out) hl)
                  have X1 := Lib.hid (Whole.new wA 29 #[.int .i64 r, .int .i64 c, .int .i64 s, .slice (some ⟨g0, 0, none⟩) zs.length cap])
                  have HSX := Lib.hid hsX
                  have hl0 := (KA.out).lt
                  clear hsX
                  go_wp2_with fail
                  refine CC.out.mono ?_
                  rintro e w5 ⟨g, gcap, rfl, o5, b5⟩
                  have gl := World.ownsRow.lt o5 g rfl
                  have X5 := Whole.all (w := boxG wA r c s (.slice (some ⟨g0, 0, none⟩) zs.length cap) 29) X1.out b5
                  have R5 := (A1.out.all BX.out).all b5
                  have c4 : w5.cell? ⟨g, kn, none⟩ = some (.int .i64 y) := by rw [o5.cellAt kn (by have := HKN.out; omega)]; exact iv_at (HYK.out)
                  have f4 := o5.frozenAt kn
                  have z0 := X5.at_ 0; have z1 := X5.at_ 1; have z2 := X5.at_ 2; have z3 := X5.at_ 3
                  have e3 := X5.free 3
                  have hgA : wA.heap.size ≠ g := by have := HSX.out; omega
                  have hgw : w.heap.size + 1 ≠ g := by have := HSX.out; omega
                  have G1 : Hid (w5.grownBy (w5.setCell ⟨wA.heap.size, 3, none⟩ (.slice (some ⟨g, 0, none⟩) zs.length gcap)) (some wA.heap.size)) := Lib.hid (only_setCell (p := ⟨wA.heap.size, 3, none⟩) (World.grownBy.refl _ _) rfl _)
                  have O6 := Lib.hid (own_set (own_other o5 G1.out (fun e => hgA e.symm)) kn (y + b))
                  have G2 := Lib.hid (only_setCell (p := ⟨g, kn, none⟩) (World.grownBy.refl (w5.setCell ⟨wA.heap.size, 3, none⟩ (.slice (some ⟨g, 0, none⟩) zs.length gcap)) (some g)) rfl (.int .i64 (y + b)))
                  have X6 : Hid (Whole ((w5.setCell ⟨wA.heap.size, 3, none⟩ (.slice (some ⟨g, 0, none⟩) zs.length gcap)).setCell ⟨g, kn, none⟩ (.int .i64 (y + b))) wA.heap.size 29 #[.int .i64 r, .int .i64 c, .int .i64 s, .slice (some ⟨g, 0, none⟩) zs.length gcap]) := Lib.hid (by have := (X5.put 3 (.slice (some ⟨g, 0, none⟩) zs.length gcap)).far G2.out hgA; simpa using this)
                  have R6 := Lib.hid ((R5.far G1.out (by omega)).far G2.out hgw)
                  have B5 := Lib.hid (bt (bt B3.out BX.out) b5)
                  have B6 := Lib.hid ((B5.out.setCell (p := ⟨wA.heap.size, 3, none⟩) (by simp; omega) (.slice (some ⟨g, 0, none⟩) zs.length gcap)).setCell (p := ⟨g, kn, none⟩) (by have := HSX.out; simp; omega) (.int .i64 (y + b)))
                  have CV := Lib.hid (implValidGrid_any ((w5.setCell ⟨wA.heap.size, 3, none⟩ (.slice (some ⟨g, 0, none⟩) zs.length gcap)).setCell ⟨g, kn, none⟩ (.int .i64 (y + b))) r c s (.slice (some ⟨g, 0, none⟩) zs.length gcap) (zs.set kn (y + b)) (Own.sl O6.out) (by rw [List.length_set]; exact hl))
                  rw [HOK.out] at CV
                  have hgx := gl.2
                  have HGA := Lib.hid gl.1
                  clear o5 b5 CC X5 R5 gl y0 y1 y2 y3 hwl hwl2
                  go_wp2_with fail
                  refine CV.out.mono ?_
                  rintro e w7 ⟨rfl, b7⟩
                  have B7 := Lib.hid (bt B6.out b7)
                  have A7 := Lib.hid (R6.out.all b7)
                  have X7 := X6.out.all b7
                  have O7 := Lib.hid (O6.out.belowAll b7)
                  have z0 := X7.at_ 0; have z1 := X7.at_ 1; have z2 := X7.at_ 2; have z3 := X7.at_ 3
                  have t0 := A7.out.at_ 0; have t1 := A7.out.at_ 1; have t2 := A7.out.at_ 2; have t3 := A7.out.at_ 3
                  have g0' := A7.out.free 0; have g1 := A7.out.free 1; have g2 := A7.out.free 2; have g3 := A7.out.free 3
                  clear b7 X7 CV
                  go_wp2_with fail
                  have W5 := setG_whole A7.out 0 0 0 (.slice none 0 0)
                  have B8 := setG_below B7.out (show w.heap.size ≤ w.heap.size + 1 by omega) 0 0 0 (.slice none 0 0)
                  have d0 := W5.at_ 0; have d1 := W5.at_ 1; have d2 := W5.at_ 2; have d3 := W5.at_ 3
                  unfold setG at d0 d1 d2 d3 B8
                  exact bodyPost_ret (v := .tuple #[.agg #[.int .i64 0, .int .i64 0, .int .i64 0, .slice none 0 0], .int .i64 6]) (by simp [results, Try.results25, go_sem, d0, d1, d2, d3]) rfl (RGC.no HE.out (by decide) B8)
                exact AllReadyH.nil
              exact AllReadyH.nil
            exact AllReadyH.nil
          exact AllReadyH.nil
end Go.Proofs.Ytaldmdammipfjaa

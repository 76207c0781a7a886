/-
  The worst direction for a cell (chapter 6), by the program. Its condition: impl.leeWays holds what the program's text lays.
-/
import Derived.Test.YtmidihmbehaegaaDoorFdWm
import Derived.Test.YtmidihmbehaegaaDoorFdDc
namespace Go.Proofs.YtmidihmbehaegaaDoor
open Go.RowKit Go.Shelf Go.Deep Go.Maps Go.WideShapes
set_option linter.unusedVariables false
set_option maxRecDepth 100000

set_option maxHeartbeats 400000 in
theorem isIndexI_any (w : World) (a : Option Addr) (n cap : Nat) (k : Int) (hl : n ≤ 1048576) :
    Calls Tryd.prog 45 #[.int .i64 k, .slice a n cap] w fun e w' => e = .returned (.bool (Ar.inB 0 k (n - 1))) ∧ w = w' := by
  have C := fun W => Lib.hid (within_any k 0 (n - 1) W)
  go_enter Tryd.func45, Tryd.ntmps45
  go_wp2_with fail
  refine (C _).out.mono ?_
  rintro e w1 ⟨rfl, rfl⟩
  go_wp2_with fail
  go_ret
  exact ⟨rfl, rfl⟩
theorem one_slW (W : World) (d : Int) : Sl (W.alloc (.cells #[.int .i64 d] 2)) (.slice (some ⟨W.heap.size, 0, none⟩) 1 1) [d] := by
  refine Or.inr ⟨W.heap.size, 0, 1, rfl, by simp, fun j z hj => ?_⟩
  cases j with
  | zero => simp only [List.getElem?_cons_zero, Option.some.injEq] at hj; subst hj; simp
  | succ j => simp at hj
theorem okDs_oneW (d : Int) : Fw.okDs [d] = Fw.okD d := by unfold Fw.okDs; simp
theorem both_oneW {d s : Int} (h1 : Fw.okD d = true) (h2 : Fw.okS s = true) : (Fw.okDs [d] && Fw.okS s) = true := by rw [okDs_oneW, h1, h2]; rfl
set_option maxHeartbeats 25600000 in
theorem implWorstWind_any (w : World) (r c : Int) (v : Value) (zs : List Int) (s cell : Int) (ho : IAt w v zs) (hl : zs.length ≤ 1048576) (hw : WaysAt w) :
    Calls Tryd.prog 27 #[.agg #[.int .i64 r, .int .i64 c, v], .int .i64 s, .int .i64 cell] w fun e w' => P3 (Fw.wwA r c zs s cell) e ∧ Below w.heap.size w w' := by
  have HO := Lib.hid ho
  obtain ⟨vB, vb, vcap, rfl, hvo⟩ := ho
  have ho := HO.out
  have hbx : boxF w r c (.slice (some ⟨vb, 0, none⟩) zs.length vcap) 26 = w.alloc (.cells #[.int .i64 r, .int .i64 c, .slice (some ⟨vb, 0, none⟩) zs.length vcap] 26) := rfl
  have HB := Lib.hid (boxF_below w r c (.slice (some ⟨vb, 0, none⟩) zs.length vcap) 26)
  have K0 := Lib.hid (fun W (h : Below (boxF w r c (.slice (some ⟨vb, 0, none⟩) zs.length vcap) 26).heap.size (boxF w r c (.slice (some ⟨vb, 0, none⟩) zs.length vcap) 26) W) => (boxF_kept h).three)
  have KC := Lib.hid (fun W (h : Below (boxF w r c (.slice (some ⟨vb, 0, none⟩) zs.length vcap) 26).heap.size (boxF w r c (.slice (some ⟨vb, 0, none⟩) zs.length vcap) 26) W) => boxF_kept h)
  have CS := Lib.hid (fun W => isShare_any s W)
  have CI := Lib.hid (fun W => isIndexI_any W (some ⟨vb, 0, none⟩) zs.length vcap cell hl)
  have CF := Lib.hid (fun b W (h : Below (boxF w r c (.slice (some ⟨vb, 0, none⟩) zs.length vcap) 26).heap.size (boxF w r c (.slice (some ⟨vb, 0, none⟩) zs.length vcap) 26) W) => fieldCode_any W r c (.slice (some ⟨vb, 0, none⟩) zs.length vcap) zs b ((ho.sl.below HB.out).below h) hl)
  have HW := Lib.hid hw
  generalize boxF w r c (.slice (some ⟨vb, 0, none⟩) zs.length vcap) 26 = W1 at *
  obtain ⟨x0, x1, x2⟩ := K0.out _ (Below.refl _ _)
  clear ho hw hvo
  cases h2 : Fw.okS s with
  | false =>
    have CF0 := Lib.hid (CF.out false)
    rw [h2] at CS
    cases h1 : Fw.ok r c zs with
    | false =>
      have hr := Lib.hid (wwA_1 (s := s) (q := cell) h1)
      rw [h1, show Fw.cd false false = 1 from rfl] at CF0
      clear h1 h2
      go_enter Tryd.func27, Tryd.ntmps27
      go_wp2_with fail
      rw [← hbx]
      clear hbx
      refine wp_region_held_drew (S := (fun w' => w'.cell? ⟨w.heap.size, 0, none⟩ = some (.int .i64 r) ∧ w'.cell? ⟨w.heap.size, 1, none⟩ = some (.int .i64 c) ∧ w'.cell? ⟨w.heap.size, 2, none⟩ = some (.slice (some ⟨vb, 0, none⟩) zs.length vcap))) (by kernel_rfl) ?_ (fun hHeld => ?_)
      · (try dsimp only)
        first | done | go_keep
      refine wpAnyH_take (i := 0) (oi := ({ dst := some 16, op := Op.load 26 (Operand.tmp 3), type := 26, pos := "l06_drift.go:124", after := #[], guard := none } : Oper)) (v := ?_) rfl (by kernel_rfl) (by kernel_rfl) (by kernel_rfl) (fun _ _ _ h => h) (Or.inl ⟨by rfl, ?_⟩) (by assumption) ?_
      rotate_left
      · (intro w hSw; (try dsimp only at hSw); go_simp <;> with_reducible rfl)
      try simp only [Act.put, List.setIfInBounds_toArray, List.set_cons_zero, List.set_cons_succ]
      refine wpAnyH_take (i := 1) (oi := ({ dst := some 17, op := Op.move (Operand.tmp 1), type := 2, pos := "l06_drift.go:124", after := #[], guard := none } : Oper)) (v := ?_) rfl (by kernel_rfl) (by kernel_rfl) (by kernel_rfl) (fun _ _ _ h => h) (Or.inl ⟨by rfl, ?_⟩) (by assumption) ?_
      rotate_left
      · (intro w hSw; (try dsimp only at hSw); go_simp <;> with_reducible rfl)
      try simp only [Act.put, List.setIfInBounds_toArray, List.set_cons_zero, List.set_cons_succ]
      refine wpAnyH_ready (rs := [2]) (by kernel_rfl) (by simp) ?_
      refine AllReadyH.cons (o := ({ dst := some 18, op := Op.call { callee := Callee.value (Operand.func 39), args := #[Operand.tmp 17], argTypes := #[2] }, type := 4, pos := "l06_drift.go:124", after := #[{ on := 1, ground := Ground.data }], guard := none } : Oper)) rfl (fun K hK => ?_) ?_
      · go_simp
        (go_at_call 39; refine (CS.out _).mono ?_; rintro e w' ⟨rfl, rfl⟩)
        go_wp2_with fail
        refine hK.out _ _ ?_ (fun hHeld => ?_)
        · (try dsimp only)
          first | done | go_keep
        clear hK K
        try simp only [Act.put, List.setIfInBounds_toArray, List.set_cons_zero, List.set_cons_succ]
        refine wpAnyH_take (i := 3) (oi := ({ dst := some 19, op := Op.move (Operand.tmp 18), type := 4, pos := "l06_drift.go:124", after := #[{ on := 2, ground := Ground.data }, { on := 2, ground := Ground.chain }], guard := none } : Oper)) (v := ?_) rfl (by kernel_rfl) (by kernel_rfl) (by kernel_rfl) (fun _ _ _ h => h) (Or.inl ⟨by rfl, ?_⟩) (by assumption) ?_
        rotate_left
        · (intro w hSw; (try dsimp only at hSw); go_simp <;> with_reducible rfl)
        try simp only [Act.put, List.setIfInBounds_toArray, List.set_cons_zero, List.set_cons_succ]
        refine wpAnyH_ready (rs := [4, 5]) (by kernel_rfl) (by simp) ?_
        refine AllReadyH.cons (o := ({ dst := some 20, op := Op.move (Operand.tmp 2), type := 2, pos := "l06_drift.go:124", after := #[{ on := 3, ground := Ground.guard }], guard := some (3, true) } : Oper)) rfl (fun K hK => ?_) ?_
        · go_simp
          refine hK.out _ _ ?_ (fun hHeld => ?_)
          · (try dsimp only)
            first | done | go_keep
          clear hK K
          try simp only [Act.put, List.setIfInBounds_toArray, List.set_cons_zero, List.set_cons_succ]
          refine wpAnyH_ready (rs := [5]) (by kernel_rfl) (by simp) ?_
          refine AllReadyH.cons (o := ({ dst := some 21, op := Op.fieldAddr 26 (Operand.tmp 3) 2, type := 0, pos := "l06_drift.go:124", after := #[{ on := 3, ground := Ground.guard }], guard := some (3, true) } : Oper)) rfl (fun K hK => ?_) ?_
          · go_simp
            refine hK.out _ _ ?_ (fun hHeld => ?_)
            · (try dsimp only)
              first | done | go_keep
            clear hK K
            try simp only [Act.put, List.setIfInBounds_toArray, List.set_cons_zero, List.set_cons_succ]
            refine wpAnyH_ready (rs := [6]) (by kernel_rfl) (by simp) ?_
            refine AllReadyH.cons (o := ({ dst := some 22, op := Op.load 22 (Operand.tmp 21), type := 22, pos := "l06_drift.go:124", after := #[{ on := 5, ground := Ground.data }, { on := 3, ground := Ground.guard }], guard := some (3, true) } : Oper)) rfl (fun K hK => ?_) ?_
            · go_simp
              refine hK.out _ _ ?_ (fun hHeld => ?_)
              · (try dsimp only)
                first | done | go_keep
              clear hK K
              try simp only [Act.put, List.setIfInBounds_toArray, List.set_cons_zero, List.set_cons_succ]
              refine wpAnyH_ready (rs := [7]) (by kernel_rfl) (by simp) ?_
              refine AllReadyH.cons (o := ({ dst := some 23, op := Op.call { callee := Callee.value (Operand.func 45), args := #[Operand.tmp 20, Operand.tmp 22], argTypes := #[2, 22] }, type := 4, pos := "l06_drift.go:124", after := #[{ on := 4, ground := Ground.data }, { on := 6, ground := Ground.data }, { on := 3, ground := Ground.chain }, { on := 3, ground := Ground.guard }], guard := some (3, true) } : Oper)) rfl (fun K hK => ?_) ?_
              · go_simp
                refine hK.out _ _ ?_ (fun hHeld => ?_)
                · (try dsimp only)
                  first | done | go_keep
                clear hK K
                try simp only [Act.put, List.setIfInBounds_toArray, List.set_cons_zero, List.set_cons_succ]
                refine wpAnyH_take (i := 8) (oi := ({ dst := some 24, op := Op.pick (Operand.tmp 19) (Operand.tmp 23) (Operand.const (Value.bool false)), type := 4, pos := "l06_drift.go:124", after := #[{ on := 3, ground := Ground.data }, { on := 7, ground := Ground.data }], guard := none } : Oper)) (v := ?_) rfl (by kernel_rfl) (by kernel_rfl) (by kernel_rfl) (fun _ _ _ h => h) (Or.inl ⟨by rfl, ?_⟩) (by assumption) ?_
                rotate_left
                · (intro w hSw; (try dsimp only at hSw); go_simp <;> with_reducible rfl)
                try simp only [Act.put, List.setIfInBounds_toArray, List.set_cons_zero, List.set_cons_succ]
                refine wpAnyH_ready (rs := [9]) (by kernel_rfl) (by simp) ?_
                refine AllReadyH.cons (o := ({ dst := some 25, op := Op.call { callee := Callee.value (Operand.func 37), args := #[Operand.tmp 16, Operand.tmp 24], argTypes := #[26, 4] }, type := 2, pos := "l06_drift.go:124", after := #[{ on := 0, ground := Ground.data }, { on := 8, ground := Ground.data }, { on := 7, ground := Ground.chain }], guard := none } : Oper)) rfl (fun K hK => ?_) ?_
                · go_simp
                  (go_at_call 37; refine (CF0.out _ (bdr1 _)).mono ?_; rintro e w1 ⟨rfl, b1⟩; have b10 := bt (bdr1 _) b1; obtain ⟨y0, y1, y2⟩ := K0.out w1 b10)
                  go_wp2_with fail
                  refine hK.out _ _ ?_ (fun hHeld => ?_)
                  · (try dsimp only)
                    first | done | go_keep
                  clear hK K
                  try simp only [Act.put, List.setIfInBounds_toArray, List.set_cons_zero, List.set_cons_succ]
                  refine wpAnyH_take (i := 10) (oi := ({ dst := some 9, op := Op.assign (Operand.tmp 25), type := 2, pos := "l06_drift.go:124", after := #[{ on := 9, ground := Ground.data }, { on := 9, ground := Ground.chain }, { on := 0, ground := Ground.phase }, { on := 1, ground := Ground.phase }, { on := 2, ground := Ground.phase }, { on := 3, ground := Ground.phase }, { on := 4, ground := Ground.phase }, { on := 5, ground := Ground.phase }, { on := 6, ground := Ground.phase }, { on := 7, ground := Ground.phase }, { on := 8, ground := Ground.phase }, { on := 9, ground := Ground.phase }], guard := none } : Oper)) (v := ?_) rfl (by kernel_rfl) (by kernel_rfl) (by kernel_rfl) (fun _ _ _ h => h) (Or.inl ⟨by rfl, ?_⟩) (by assumption) ?_
                  rotate_left
                  · (intro w hSw; (try dsimp only at hSw); go_simp <;> with_reducible rfl)
                  try simp only [Act.put, List.setIfInBounds_toArray, List.set_cons_zero, List.set_cons_succ]
                  refine wpAnyH_done (by kernel_rfl) ?_ _
                  go_wp2_with fail
                  exact bodyPost_ret (v := .tuple #[.int .i64 0, .int .i64 0, .int .i64 1]) (by simp [results, Tryd.results27, go_sem]) rfl ⟨hr.out, bt HB.out b10⟩
                exact AllReadyH.nil
              exact AllReadyH.nil
            exact AllReadyH.nil
          exact AllReadyH.nil
        refine AllReadyH.cons (o := ({ dst := some 21, op := Op.fieldAddr 26 (Operand.tmp 3) 2, type := 0, pos := "l06_drift.go:124", after := #[{ on := 3, ground := Ground.guard }], guard := some (3, true) } : Oper)) rfl (fun K hK => ?_) ?_
        · go_simp
          refine hK.out _ _ ?_ (fun hHeld => ?_)
          · (try dsimp only)
            first | done | go_keep
          clear hK K
          try simp only [Act.put, List.setIfInBounds_toArray, List.set_cons_zero, List.set_cons_succ]
          refine wpAnyH_ready (rs := [4, 6]) (by kernel_rfl) (by simp) ?_
          refine AllReadyH.cons (o := ({ dst := some 20, op := Op.move (Operand.tmp 2), type := 2, pos := "l06_drift.go:124", after := #[{ on := 3, ground := Ground.guard }], guard := some (3, true) } : Oper)) rfl (fun K hK => ?_) ?_
          · go_simp
            refine hK.out _ _ ?_ (fun hHeld => ?_)
            · (try dsimp only)
              first | done | go_keep
            clear hK K
            try simp only [Act.put, List.setIfInBounds_toArray, List.set_cons_zero, List.set_cons_succ]
            refine wpAnyH_ready (rs := [6]) (by kernel_rfl) (by simp) ?_
            refine AllReadyH.cons (o := ({ dst := some 22, op := Op.load 22 (Operand.tmp 21), type := 22, pos := "l06_drift.go:124", after := #[{ on := 5, ground := Ground.data }, { on := 3, ground := Ground.guard }], guard := some (3, true) } : Oper)) rfl (fun K hK => ?_) ?_
            · go_simp
              refine hK.out _ _ ?_ (fun hHeld => ?_)
              · (try dsimp only)
                first | done | go_keep
              clear hK K
              try simp only [Act.put, List.setIfInBounds_toArray, List.set_cons_zero, List.set_cons_succ]
              refine wpAnyH_ready (rs := [7]) (by kernel_rfl) (by simp) ?_
              refine AllReadyH.cons (o := ({ dst := some 23, op := Op.call { callee := Callee.value (Operand.func 45), args := #[Operand.tmp 20, Operand.tmp 22], argTypes := #[2, 22] }, type := 4, pos := "l06_drift.go:124", after := #[{ on := 4, ground := Ground.data }, { on := 6, ground := Ground.data }, { on := 3, ground := Ground.chain }, { on := 3, ground := Ground.guard }], guard := some (3, true) } : Oper)) rfl (fun K hK => ?_) ?_
              · go_simp
                refine hK.out _ _ ?_ (fun hHeld => ?_)
                · (try dsimp only)
                  first | done | go_keep
                clear hK K
                try simp only [Act.put, List.setIfInBounds_toArray, List.set_cons_zero, List.set_cons_succ]
                refine wpAnyH_take (i := 8) (oi := ({ dst := some 24, op := Op.pick (Operand.tmp 19) (Operand.tmp 23) (Operand.const (Value.bool false)), type := 4, pos := "l06_drift.go:124", after := #[{ on := 3, ground := Ground.data }, { on := 7, ground := Ground.data }], guard := none } : Oper)) (v := ?_) rfl (by kernel_rfl) (by kernel_rfl) (by kernel_rfl) (fun _ _ _ h => h) (Or.inl ⟨by rfl, ?_⟩) (by assumption) ?_
                rotate_left
                · (intro w hSw; (try dsimp only at hSw); go_simp <;> with_reducible rfl)
                try simp only [Act.put, List.setIfInBounds_toArray, List.set_cons_zero, List.set_cons_succ]
                refine wpAnyH_ready (rs := [9]) (by kernel_rfl) (by simp) ?_
                refine AllReadyH.cons (o := ({ dst := some 25, op := Op.call { callee := Callee.value (Operand.func 37), args := #[Operand.tmp 16, Operand.tmp 24], argTypes := #[26, 4] }, type := 2, pos := "l06_drift.go:124", after := #[{ on := 0, ground := Ground.data }, { on := 8, ground := Ground.data }, { on := 7, ground := Ground.chain }], guard := none } : Oper)) rfl (fun K hK => ?_) ?_
                · go_simp
                  (go_at_call 37; refine (CF0.out _ (bdr1 _)).mono ?_; rintro e w1 ⟨rfl, b1⟩; have b10 := bt (bdr1 _) b1; obtain ⟨y0, y1, y2⟩ := K0.out w1 b10)
                  go_wp2_with fail
                  refine hK.out _ _ ?_ (fun hHeld => ?_)
                  · (try dsimp only)
                    first | done | go_keep
                  clear hK K
                  try simp only [Act.put, List.setIfInBounds_toArray, List.set_cons_zero, List.set_cons_succ]
                  refine wpAnyH_take (i := 10) (oi := ({ dst := some 9, op := Op.assign (Operand.tmp 25), type := 2, pos := "l06_drift.go:124", after := #[{ on := 9, ground := Ground.data }, { on := 9, ground := Ground.chain }, { on := 0, ground := Ground.phase }, { on := 1, ground := Ground.phase }, { on := 2, ground := Ground.phase }, { on := 3, ground := Ground.phase }, { on := 4, ground := Ground.phase }, { on := 5, ground := Ground.phase }, { on := 6, ground := Ground.phase }, { on := 7, ground := Ground.phase }, { on := 8, ground := Ground.phase }, { on := 9, ground := Ground.phase }], guard := none } : Oper)) (v := ?_) rfl (by kernel_rfl) (by kernel_rfl) (by kernel_rfl) (fun _ _ _ h => h) (Or.inl ⟨by rfl, ?_⟩) (by assumption) ?_
                  rotate_left
                  · (intro w hSw; (try dsimp only at hSw); go_simp <;> with_reducible rfl)
                  try simp only [Act.put, List.setIfInBounds_toArray, List.set_cons_zero, List.set_cons_succ]
                  refine wpAnyH_done (by kernel_rfl) ?_ _
                  go_wp2_with fail
                  exact bodyPost_ret (v := .tuple #[.int .i64 0, .int .i64 0, .int .i64 1]) (by simp [results, Tryd.results27, go_sem]) rfl ⟨hr.out, bt HB.out b10⟩
                exact AllReadyH.nil
              exact AllReadyH.nil
            exact AllReadyH.nil
          refine AllReadyH.cons (o := ({ dst := some 22, op := Op.load 22 (Operand.tmp 21), type := 22, pos := "l06_drift.go:124", after := #[{ on := 5, ground := Ground.data }, { on := 3, ground := Ground.guard }], guard := some (3, true) } : Oper)) rfl (fun K hK => ?_) ?_
          · go_simp
            refine hK.out _ _ ?_ (fun hHeld => ?_)
            · (try dsimp only)
              first | done | go_keep
            clear hK K
            try simp only [Act.put, List.setIfInBounds_toArray, List.set_cons_zero, List.set_cons_succ]
            refine wpAnyH_ready (rs := [4]) (by kernel_rfl) (by simp) ?_
            refine AllReadyH.cons (o := ({ dst := some 20, op := Op.move (Operand.tmp 2), type := 2, pos := "l06_drift.go:124", after := #[{ on := 3, ground := Ground.guard }], guard := some (3, true) } : Oper)) rfl (fun K hK => ?_) ?_
            · go_simp
              refine hK.out _ _ ?_ (fun hHeld => ?_)
              · (try dsimp only)
                first | done | go_keep
              clear hK K
              try simp only [Act.put, List.setIfInBounds_toArray, List.set_cons_zero, List.set_cons_succ]
              refine wpAnyH_ready (rs := [7]) (by kernel_rfl) (by simp) ?_
              refine AllReadyH.cons (o := ({ dst := some 23, op := Op.call { callee := Callee.value (Operand.func 45), args := #[Operand.tmp 20, Operand.tmp 22], argTypes := #[2, 22] }, type := 4, pos := "l06_drift.go:124", after := #[{ on := 4, ground := Ground.data }, { on := 6, ground := Ground.data }, { on := 3, ground := Ground.chain }, { on := 3, ground := Ground.guard }], guard := some (3, true) } : Oper)) rfl (fun K hK => ?_) ?_
              · go_simp
                refine hK.out _ _ ?_ (fun hHeld => ?_)
                · (try dsimp only)
                  first | done | go_keep
                clear hK K
                try simp only [Act.put, List.setIfInBounds_toArray, List.set_cons_zero, List.set_cons_succ]
                refine wpAnyH_take (i := 8) (oi := ({ dst := some 24, op := Op.pick (Operand.tmp 19) (Operand.tmp 23) (Operand.const (Value.bool false)), type := 4, pos := "l06_drift.go:124", after := #[{ on := 3, ground := Ground.data }, { on := 7, ground := Ground.data }], guard := none } : Oper)) (v := ?_) rfl (by kernel_rfl) (by kernel_rfl) (by kernel_rfl) (fun _ _ _ h => h) (Or.inl ⟨by rfl, ?_⟩) (by assumption) ?_
                rotate_left
                · (intro w hSw; (try dsimp only at hSw); go_simp <;> with_reducible rfl)
                try simp only [Act.put, List.setIfInBounds_toArray, List.set_cons_zero, List.set_cons_succ]
                refine wpAnyH_ready (rs := [9]) (by kernel_rfl) (by simp) ?_
                refine AllReadyH.cons (o := ({ dst := some 25, op := Op.call { callee := Callee.value (Operand.func 37), args := #[Operand.tmp 16, Operand.tmp 24], argTypes := #[26, 4] }, type := 2, pos := "l06_drift.go:124", after := #[{ on := 0, ground := Ground.data }, { on := 8, ground := Ground.data }, { on := 7, ground := Ground.chain }], guard := none } : Oper)) rfl (fun K hK => ?_) ?_
                · go_simp
                  (go_at_call 37; refine (CF0.out _ (bdr1 _)).mono ?_; rintro e w1 ⟨rfl, b1⟩; have b10 := bt (bdr1 _) b1; obtain ⟨y0, y1, y2⟩ := K0.out w1 b10)
                  go_wp2_with fail
                  refine hK.out _ _ ?_ (fun hHeld => ?_)
                  · (try dsimp only)
                    first | done | go_keep
                  clear hK K
                  try simp only [Act.put, List.setIfInBounds_toArray, List.set_cons_zero, List.set_cons_succ]
                  refine wpAnyH_take (i := 10) (oi := ({ dst := some 9, op := Op.assign (Operand.tmp 25), type := 2, pos := "l06_drift.go:124", after := #[{ on := 9, ground := Ground.data }, { on := 9, ground := Ground.chain }, { on := 0, ground := Ground.phase }, { on := 1, ground := Ground.phase }, { on := 2, ground := Ground.phase }, { on := 3, ground := Ground.phase }, { on := 4, ground := Ground.phase }, { on := 5, ground := Ground.phase }, { on := 6, ground := Ground.phase }, { on := 7, ground := Ground.phase }, { on := 8, ground := Ground.phase }, { on := 9, ground := Ground.phase }], guard := none } : Oper)) (v := ?_) rfl (by kernel_rfl) (by kernel_rfl) (by kernel_rfl) (fun _ _ _ h => h) (Or.inl ⟨by rfl, ?_⟩) (by assumption) ?_
                  rotate_left
                  · (intro w hSw; (try dsimp only at hSw); go_simp <;> with_reducible rfl)
                  try simp only [Act.put, List.setIfInBounds_toArray, List.set_cons_zero, List.set_cons_succ]
                  refine wpAnyH_done (by kernel_rfl) ?_ _
                  go_wp2_with fail
                  exact bodyPost_ret (v := .tuple #[.int .i64 0, .int .i64 0, .int .i64 1]) (by simp [results, Tryd.results27, go_sem]) rfl ⟨hr.out, bt HB.out b10⟩
                exact AllReadyH.nil
              exact AllReadyH.nil
            exact AllReadyH.nil
          exact AllReadyH.nil
        exact AllReadyH.nil
      exact AllReadyH.nil
    | true =>
      have hr := Lib.hid (wwA_2 (q := cell) h1 (and_ft (Ar.inB 0 cell (zs.length - 1)) h2))
      rw [h1, show Fw.cd true false = 2 from rfl] at CF0
      clear h1 h2
      go_enter Tryd.func27, Tryd.ntmps27
      go_wp2_with fail
      rw [← hbx]
      clear hbx
      refine wp_region_held_drew (S := (fun w' => w'.cell? ⟨w.heap.size, 0, none⟩ = some (.int .i64 r) ∧ w'.cell? ⟨w.heap.size, 1, none⟩ = some (.int .i64 c) ∧ w'.cell? ⟨w.heap.size, 2, none⟩ = some (.slice (some ⟨vb, 0, none⟩) zs.length vcap))) (by kernel_rfl) ?_ (fun hHeld => ?_)
      · (try dsimp only)
        first | done | go_keep
      refine wpAnyH_take (i := 0) (oi := ({ dst := some 16, op := Op.load 26 (Operand.tmp 3), type := 26, pos := "l06_drift.go:124", after := #[], guard := none } : Oper)) (v := ?_) rfl (by kernel_rfl) (by kernel_rfl) (by kernel_rfl) (fun _ _ _ h => h) (Or.inl ⟨by rfl, ?_⟩) (by assumption) ?_
      rotate_left
      · (intro w hSw; (try dsimp only at hSw); go_simp <;> with_reducible rfl)
      try simp only [Act.put, List.setIfInBounds_toArray, List.set_cons_zero, List.set_cons_succ]
      refine wpAnyH_take (i := 1) (oi := ({ dst := some 17, op := Op.move (Operand.tmp 1), type := 2, pos := "l06_drift.go:124", after := #[], guard := none } : Oper)) (v := ?_) rfl (by kernel_rfl) (by kernel_rfl) (by kernel_rfl) (fun _ _ _ h => h) (Or.inl ⟨by rfl, ?_⟩) (by assumption) ?_
      rotate_left
      · (intro w hSw; (try dsimp only at hSw); go_simp <;> with_reducible rfl)
      try simp only [Act.put, List.setIfInBounds_toArray, List.set_cons_zero, List.set_cons_succ]
      refine wpAnyH_ready (rs := [2]) (by kernel_rfl) (by simp) ?_
      refine AllReadyH.cons (o := ({ dst := some 18, op := Op.call { callee := Callee.value (Operand.func 39), args := #[Operand.tmp 17], argTypes := #[2] }, type := 4, pos := "l06_drift.go:124", after := #[{ on := 1, ground := Ground.data }], guard := none } : Oper)) rfl (fun K hK => ?_) ?_
      · go_simp
        (go_at_call 39; refine (CS.out _).mono ?_; rintro e w' ⟨rfl, rfl⟩)
        go_wp2_with fail
        refine hK.out _ _ ?_ (fun hHeld => ?_)
        · (try dsimp only)
          first | done | go_keep
        clear hK K
        try simp only [Act.put, List.setIfInBounds_toArray, List.set_cons_zero, List.set_cons_succ]
        refine wpAnyH_take (i := 3) (oi := ({ dst := some 19, op := Op.move (Operand.tmp 18), type := 4, pos := "l06_drift.go:124", after := #[{ on := 2, ground := Ground.data }, { on := 2, ground := Ground.chain }], guard := none } : Oper)) (v := ?_) rfl (by kernel_rfl) (by kernel_rfl) (by kernel_rfl) (fun _ _ _ h => h) (Or.inl ⟨by rfl, ?_⟩) (by assumption) ?_
        rotate_left
        · (intro w hSw; (try dsimp only at hSw); go_simp <;> with_reducible rfl)
        try simp only [Act.put, List.setIfInBounds_toArray, List.set_cons_zero, List.set_cons_succ]
        refine wpAnyH_ready (rs := [4, 5]) (by kernel_rfl) (by simp) ?_
        refine AllReadyH.cons (o := ({ dst := some 20, op := Op.move (Operand.tmp 2), type := 2, pos := "l06_drift.go:124", after := #[{ on := 3, ground := Ground.guard }], guard := some (3, true) } : Oper)) rfl (fun K hK => ?_) ?_
        · go_simp
          refine hK.out _ _ ?_ (fun hHeld => ?_)
          · (try dsimp only)
            first | done | go_keep
          clear hK K
          try simp only [Act.put, List.setIfInBounds_toArray, List.set_cons_zero, List.set_cons_succ]
          refine wpAnyH_ready (rs := [5]) (by kernel_rfl) (by simp) ?_
          refine AllReadyH.cons (o := ({ dst := some 21, op := Op.fieldAddr 26 (Operand.tmp 3) 2, type := 0, pos := "l06_drift.go:124", after := #[{ on := 3, ground := Ground.guard }], guard := some (3, true) } : Oper)) rfl (fun K hK => ?_) ?_
          · go_simp
            refine hK.out _ _ ?_ (fun hHeld => ?_)
            · (try dsimp only)
              first | done | go_keep
            clear hK K
            try simp only [Act.put, List.setIfInBounds_toArray, List.set_cons_zero, List.set_cons_succ]
            refine wpAnyH_ready (rs := [6]) (by kernel_rfl) (by simp) ?_
            refine AllReadyH.cons (o := ({ dst := some 22, op := Op.load 22 (Operand.tmp 21), type := 22, pos := "l06_drift.go:124", after := #[{ on := 5, ground := Ground.data }, { on := 3, ground := Ground.guard }], guard := some (3, true) } : Oper)) rfl (fun K hK => ?_) ?_
            · go_simp
              refine hK.out _ _ ?_ (fun hHeld => ?_)
              · (try dsimp only)
                first | done | go_keep
              clear hK K
              try simp only [Act.put, List.setIfInBounds_toArray, List.set_cons_zero, List.set_cons_succ]
              refine wpAnyH_ready (rs := [7]) (by kernel_rfl) (by simp) ?_
              refine AllReadyH.cons (o := ({ dst := some 23, op := Op.call { callee := Callee.value (Operand.func 45), args := #[Operand.tmp 20, Operand.tmp 22], argTypes := #[2, 22] }, type := 4, pos := "l06_drift.go:124", after := #[{ on := 4, ground := Ground.data }, { on := 6, ground := Ground.data }, { on := 3, ground := Ground.chain }, { on := 3, ground := Ground.guard }], guard := some (3, true) } : Oper)) rfl (fun K hK => ?_) ?_
              · go_simp
                refine hK.out _ _ ?_ (fun hHeld => ?_)
                · (try dsimp only)
                  first | done | go_keep
                clear hK K
                try simp only [Act.put, List.setIfInBounds_toArray, List.set_cons_zero, List.set_cons_succ]
                refine wpAnyH_take (i := 8) (oi := ({ dst := some 24, op := Op.pick (Operand.tmp 19) (Operand.tmp 23) (Operand.const (Value.bool false)), type := 4, pos := "l06_drift.go:124", after := #[{ on := 3, ground := Ground.data }, { on := 7, ground := Ground.data }], guard := none } : Oper)) (v := ?_) rfl (by kernel_rfl) (by kernel_rfl) (by kernel_rfl) (fun _ _ _ h => h) (Or.inl ⟨by rfl, ?_⟩) (by assumption) ?_
                rotate_left
                · (intro w hSw; (try dsimp only at hSw); go_simp <;> with_reducible rfl)
                try simp only [Act.put, List.setIfInBounds_toArray, List.set_cons_zero, List.set_cons_succ]
                refine wpAnyH_ready (rs := [9]) (by kernel_rfl) (by simp) ?_
                refine AllReadyH.cons (o := ({ dst := some 25, op := Op.call { callee := Callee.value (Operand.func 37), args := #[Operand.tmp 16, Operand.tmp 24], argTypes := #[26, 4] }, type := 2, pos := "l06_drift.go:124", after := #[{ on := 0, ground := Ground.data }, { on := 8, ground := Ground.data }, { on := 7, ground := Ground.chain }], guard := none } : Oper)) rfl (fun K hK => ?_) ?_
                · go_simp
                  (go_at_call 37; refine (CF0.out _ (bdr1 _)).mono ?_; rintro e w1 ⟨rfl, b1⟩; have b10 := bt (bdr1 _) b1; obtain ⟨y0, y1, y2⟩ := K0.out w1 b10)
                  go_wp2_with fail
                  refine hK.out _ _ ?_ (fun hHeld => ?_)
                  · (try dsimp only)
                    first | done | go_keep
                  clear hK K
                  try simp only [Act.put, List.setIfInBounds_toArray, List.set_cons_zero, List.set_cons_succ]
                  refine wpAnyH_take (i := 10) (oi := ({ dst := some 9, op := Op.assign (Operand.tmp 25), type := 2, pos := "l06_drift.go:124", after := #[{ on := 9, ground := Ground.data }, { on := 9, ground := Ground.chain }, { on := 0, ground := Ground.phase }, { on := 1, ground := Ground.phase }, { on := 2, ground := Ground.phase }, { on := 3, ground := Ground.phase }, { on := 4, ground := Ground.phase }, { on := 5, ground := Ground.phase }, { on := 6, ground := Ground.phase }, { on := 7, ground := Ground.phase }, { on := 8, ground := Ground.phase }, { on := 9, ground := Ground.phase }], guard := none } : Oper)) (v := ?_) rfl (by kernel_rfl) (by kernel_rfl) (by kernel_rfl) (fun _ _ _ h => h) (Or.inl ⟨by rfl, ?_⟩) (by assumption) ?_
                  rotate_left
                  · (intro w hSw; (try dsimp only at hSw); go_simp <;> with_reducible rfl)
                  try simp only [Act.put, List.setIfInBounds_toArray, List.set_cons_zero, List.set_cons_succ]
                  refine wpAnyH_done (by kernel_rfl) ?_ _
                  go_wp2_with fail
                  exact bodyPost_ret (v := .tuple #[.int .i64 0, .int .i64 0, .int .i64 2]) (by simp [results, Tryd.results27, go_sem]) rfl ⟨hr.out, bt HB.out b10⟩
                exact AllReadyH.nil
              exact AllReadyH.nil
            exact AllReadyH.nil
          exact AllReadyH.nil
        refine AllReadyH.cons (o := ({ dst := some 21, op := Op.fieldAddr 26 (Operand.tmp 3) 2, type := 0, pos := "l06_drift.go:124", after := #[{ on := 3, ground := Ground.guard }], guard := some (3, true) } : Oper)) rfl (fun K hK => ?_) ?_
        · go_simp
          refine hK.out _ _ ?_ (fun hHeld => ?_)
          · (try dsimp only)
            first | done | go_keep
          clear hK K
          try simp only [Act.put, List.setIfInBounds_toArray, List.set_cons_zero, List.set_cons_succ]
          refine wpAnyH_ready (rs := [4, 6]) (by kernel_rfl) (by simp) ?_
          refine AllReadyH.cons (o := ({ dst := some 20, op := Op.move (Operand.tmp 2), type := 2, pos := "l06_drift.go:124", after := #[{ on := 3, ground := Ground.guard }], guard := some (3, true) } : Oper)) rfl (fun K hK => ?_) ?_
          · go_simp
            refine hK.out _ _ ?_ (fun hHeld => ?_)
            · (try dsimp only)
              first | done | go_keep
            clear hK K
            try simp only [Act.put, List.setIfInBounds_toArray, List.set_cons_zero, List.set_cons_succ]
            refine wpAnyH_ready (rs := [6]) (by kernel_rfl) (by simp) ?_
            refine AllReadyH.cons (o := ({ dst := some 22, op := Op.load 22 (Operand.tmp 21), type := 22, pos := "l06_drift.go:124", after := #[{ on := 5, ground := Ground.data }, { on := 3, ground := Ground.guard }], guard := some (3, true) } : Oper)) rfl (fun K hK => ?_) ?_
            · go_simp
              refine hK.out _ _ ?_ (fun hHeld => ?_)
              · (try dsimp only)
                first | done | go_keep
              clear hK K
              try simp only [Act.put, List.setIfInBounds_toArray, List.set_cons_zero, List.set_cons_succ]
              refine wpAnyH_ready (rs := [7]) (by kernel_rfl) (by simp) ?_
              refine AllReadyH.cons (o := ({ dst := some 23, op := Op.call { callee := Callee.value (Operand.func 45), args := #[Operand.tmp 20, Operand.tmp 22], argTypes := #[2, 22] }, type := 4, pos := "l06_drift.go:124", after := #[{ on := 4, ground := Ground.data }, { on := 6, ground := Ground.data }, { on := 3, ground := Ground.chain }, { on := 3, ground := Ground.guard }], guard := some (3, true) } : Oper)) rfl (fun K hK => ?_) ?_
              · go_simp
                refine hK.out _ _ ?_ (fun hHeld => ?_)
                · (try dsimp only)
                  first | done | go_keep
                clear hK K
                try simp only [Act.put, List.setIfInBounds_toArray, List.set_cons_zero, List.set_cons_succ]
                refine wpAnyH_take (i := 8) (oi := ({ dst := some 24, op := Op.pick (Operand.tmp 19) (Operand.tmp 23) (Operand.const (Value.bool false)), type := 4, pos := "l06_drift.go:124", after := #[{ on := 3, ground := Ground.data }, { on := 7, ground := Ground.data }], guard := none } : Oper)) (v := ?_) rfl (by kernel_rfl) (by kernel_rfl) (by kernel_rfl) (fun _ _ _ h => h) (Or.inl ⟨by rfl, ?_⟩) (by assumption) ?_
                rotate_left
                · (intro w hSw; (try dsimp only at hSw); go_simp <;> with_reducible rfl)
                try simp only [Act.put, List.setIfInBounds_toArray, List.set_cons_zero, List.set_cons_succ]
                refine wpAnyH_ready (rs := [9]) (by kernel_rfl) (by simp) ?_
                refine AllReadyH.cons (o := ({ dst := some 25, op := Op.call { callee := Callee.value (Operand.func 37), args := #[Operand.tmp 16, Operand.tmp 24], argTypes := #[26, 4] }, type := 2, pos := "l06_drift.go:124", after := #[{ on := 0, ground := Ground.data }, { on := 8, ground := Ground.data }, { on := 7, ground := Ground.chain }], guard := none } : Oper)) rfl (fun K hK => ?_) ?_
                · go_simp
                  (go_at_call 37; refine (CF0.out _ (bdr1 _)).mono ?_; rintro e w1 ⟨rfl, b1⟩; have b10 := bt (bdr1 _) b1; obtain ⟨y0, y1, y2⟩ := K0.out w1 b10)
                  go_wp2_with fail
                  refine hK.out _ _ ?_ (fun hHeld => ?_)
                  · (try dsimp only)
                    first | done | go_keep
                  clear hK K
                  try simp only [Act.put, List.setIfInBounds_toArray, List.set_cons_zero, List.set_cons_succ]
                  refine wpAnyH_take (i := 10) (oi := ({ dst := some 9, op := Op.assign (Operand.tmp 25), type := 2, pos := "l06_drift.go:124", after := #[{ on := 9, ground := Ground.data }, { on := 9, ground := Ground.chain }, { on := 0, ground := Ground.phase }, { on := 1, ground := Ground.phase }, { on := 2, ground := Ground.phase }, { on := 3, ground := Ground.phase }, { on := 4, ground := Ground.phase }, { on := 5, ground := Ground.phase }, { on := 6, ground := Ground.phase }, { on := 7, ground := Ground.phase }, { on := 8, ground := Ground.phase }, { on := 9, ground := Ground.phase }], guard := none } : Oper)) (v := ?_) rfl (by kernel_rfl) (by kernel_rfl) (by kernel_rfl) (fun _ _ _ h => h) (Or.inl ⟨by rfl, ?_⟩) (by assumption) ?_
                  rotate_left
                  · (intro w hSw; (try dsimp only at hSw); go_simp <;> with_reducible rfl)
                  try simp only [Act.put, List.setIfInBounds_toArray, List.set_cons_zero, List.set_cons_succ]
                  refine wpAnyH_done (by kernel_rfl) ?_ _
                  go_wp2_with fail
                  exact bodyPost_ret (v := .tuple #[.int .i64 0, .int .i64 0, .int .i64 2]) (by simp [results, Tryd.results27, go_sem]) rfl ⟨hr.out, bt HB.out b10⟩
                exact AllReadyH.nil
              exact AllReadyH.nil
            exact AllReadyH.nil
          refine AllReadyH.cons (o := ({ dst := some 22, op := Op.load 22 (Operand.tmp 21), type := 22, pos := "l06_drift.go:124", after := #[{ on := 5, ground := Ground.data }, { on := 3, ground := Ground.guard }], guard := some (3, true) } : Oper)) rfl (fun K hK => ?_) ?_
          · go_simp
            refine hK.out _ _ ?_ (fun hHeld => ?_)
            · (try dsimp only)
              first | done | go_keep
            clear hK K
            try simp only [Act.put, List.setIfInBounds_toArray, List.set_cons_zero, List.set_cons_succ]
            refine wpAnyH_ready (rs := [4]) (by kernel_rfl) (by simp) ?_
            refine AllReadyH.cons (o := ({ dst := some 20, op := Op.move (Operand.tmp 2), type := 2, pos := "l06_drift.go:124", after := #[{ on := 3, ground := Ground.guard }], guard := some (3, true) } : Oper)) rfl (fun K hK => ?_) ?_
            · go_simp
              refine hK.out _ _ ?_ (fun hHeld => ?_)
              · (try dsimp only)
                first | done | go_keep
              clear hK K
              try simp only [Act.put, List.setIfInBounds_toArray, List.set_cons_zero, List.set_cons_succ]
              refine wpAnyH_ready (rs := [7]) (by kernel_rfl) (by simp) ?_
              refine AllReadyH.cons (o := ({ dst := some 23, op := Op.call { callee := Callee.value (Operand.func 45), args := #[Operand.tmp 20, Operand.tmp 22], argTypes := #[2, 22] }, type := 4, pos := "l06_drift.go:124", after := #[{ on := 4, ground := Ground.data }, { on := 6, ground := Ground.data }, { on := 3, ground := Ground.chain }, { on := 3, ground := Ground.guard }], guard := some (3, true) } : Oper)) rfl (fun K hK => ?_) ?_
              · go_simp
                refine hK.out _ _ ?_ (fun hHeld => ?_)
                · (try dsimp only)
                  first | done | go_keep
                clear hK K
                try simp only [Act.put, List.setIfInBounds_toArray, List.set_cons_zero, List.set_cons_succ]
                refine wpAnyH_take (i := 8) (oi := ({ dst := some 24, op := Op.pick (Operand.tmp 19) (Operand.tmp 23) (Operand.const (Value.bool false)), type := 4, pos := "l06_drift.go:124", after := #[{ on := 3, ground := Ground.data }, { on := 7, ground := Ground.data }], guard := none } : Oper)) (v := ?_) rfl (by kernel_rfl) (by kernel_rfl) (by kernel_rfl) (fun _ _ _ h => h) (Or.inl ⟨by rfl, ?_⟩) (by assumption) ?_
                rotate_left
                · (intro w hSw; (try dsimp only at hSw); go_simp <;> with_reducible rfl)
                try simp only [Act.put, List.setIfInBounds_toArray, List.set_cons_zero, List.set_cons_succ]
                refine wpAnyH_ready (rs := [9]) (by kernel_rfl) (by simp) ?_
                refine AllReadyH.cons (o := ({ dst := some 25, op := Op.call { callee := Callee.value (Operand.func 37), args := #[Operand.tmp 16, Operand.tmp 24], argTypes := #[26, 4] }, type := 2, pos := "l06_drift.go:124", after := #[{ on := 0, ground := Ground.data }, { on := 8, ground := Ground.data }, { on := 7, ground := Ground.chain }], guard := none } : Oper)) rfl (fun K hK => ?_) ?_
                · go_simp
                  (go_at_call 37; refine (CF0.out _ (bdr1 _)).mono ?_; rintro e w1 ⟨rfl, b1⟩; have b10 := bt (bdr1 _) b1; obtain ⟨y0, y1, y2⟩ := K0.out w1 b10)
                  go_wp2_with fail
                  refine hK.out _ _ ?_ (fun hHeld => ?_)
                  · (try dsimp only)
                    first | done | go_keep
                  clear hK K
                  try simp only [Act.put, List.setIfInBounds_toArray, List.set_cons_zero, List.set_cons_succ]
                  refine wpAnyH_take (i := 10) (oi := ({ dst := some 9, op := Op.assign (Operand.tmp 25), type := 2, pos := "l06_drift.go:124", after := #[{ on := 9, ground := Ground.data }, { on := 9, ground := Ground.chain }, { on := 0, ground := Ground.phase }, { on := 1, ground := Ground.phase }, { on := 2, ground := Ground.phase }, { on := 3, ground := Ground.phase }, { on := 4, ground := Ground.phase }, { on := 5, ground := Ground.phase }, { on := 6, ground := Ground.phase }, { on := 7, ground := Ground.phase }, { on := 8, ground := Ground.phase }, { on := 9, ground := Ground.phase }], guard := none } : Oper)) (v := ?_) rfl (by kernel_rfl) (by kernel_rfl) (by kernel_rfl) (fun _ _ _ h => h) (Or.inl ⟨by rfl, ?_⟩) (by assumption) ?_
                  rotate_left
                  · (intro w hSw; (try dsimp only at hSw); go_simp <;> with_reducible rfl)
                  try simp only [Act.put, List.setIfInBounds_toArray, List.set_cons_zero, List.set_cons_succ]
                  refine wpAnyH_done (by kernel_rfl) ?_ _
                  go_wp2_with fail
                  exact bodyPost_ret (v := .tuple #[.int .i64 0, .int .i64 0, .int .i64 2]) (by simp [results, Tryd.results27, go_sem]) rfl ⟨hr.out, bt HB.out b10⟩
                exact AllReadyH.nil
              exact AllReadyH.nil
            exact AllReadyH.nil
          exact AllReadyH.nil
        exact AllReadyH.nil
      exact AllReadyH.nil
  | true =>
    rw [h2] at CS
    cases h3 : Ar.inB 0 cell ((zs.length : Int) - 1) with
    | false =>
      have CF0 := Lib.hid (CF.out false)
      rw [h3] at CI
      cases h1 : Fw.ok r c zs with
      | false =>
        have hr := Lib.hid (wwA_1 (s := s) (q := cell) h1)
        rw [h1, show Fw.cd false false = 1 from rfl] at CF0
        clear h1 h2 h3
        go_enter Tryd.func27, Tryd.ntmps27
        go_wp2_with fail
        rw [← hbx]
        clear hbx
        go_region_held3 (fun w' => w'.cell? ⟨w.heap.size, 0, none⟩ = some (.int .i64 r) ∧ w'.cell? ⟨w.heap.size, 1, none⟩ = some (.int .i64 c) ∧ w'.cell? ⟨w.heap.size, 2, none⟩ = some (.slice (some ⟨vb, 0, none⟩) zs.length vcap)) (go_keep)
          (first | (go_at_call 39; refine (CS.out _).mono ?_; rintro e w' ⟨rfl, rfl⟩) | (go_at_call 45; refine (CI.out _).mono ?_; rintro e w' ⟨rfl, rfl⟩) | (go_at_call 37; refine (CF0.out _ (bdr1 _)).mono ?_; rintro e w1 ⟨rfl, b1⟩; have b10 := bt (bdr1 _) b1; obtain ⟨y0, y1, y2⟩ := K0.out w1 b10))
        all_goals (
          go_wp2_with fail
          exact bodyPost_ret (v := .tuple #[.int .i64 0, .int .i64 0, .int .i64 1]) (by simp [results, Tryd.results27, go_sem]) rfl ⟨hr.out, bt HB.out b10⟩)
      | true =>
        have hr := Lib.hid (wwA_2 (q := cell) h1 (and_ff (Fw.okS s) h3))
        rw [h1, show Fw.cd true false = 2 from rfl] at CF0
        clear h1 h2 h3
        go_enter Tryd.func27, Tryd.ntmps27
        go_wp2_with fail
        rw [← hbx]
        clear hbx
        go_region_held3 (fun w' => w'.cell? ⟨w.heap.size, 0, none⟩ = some (.int .i64 r) ∧ w'.cell? ⟨w.heap.size, 1, none⟩ = some (.int .i64 c) ∧ w'.cell? ⟨w.heap.size, 2, none⟩ = some (.slice (some ⟨vb, 0, none⟩) zs.length vcap)) (go_keep)
          (first | (go_at_call 39; refine (CS.out _).mono ?_; rintro e w' ⟨rfl, rfl⟩) | (go_at_call 45; refine (CI.out _).mono ?_; rintro e w' ⟨rfl, rfl⟩) | (go_at_call 37; refine (CF0.out _ (bdr1 _)).mono ?_; rintro e w1 ⟨rfl, b1⟩; have b10 := bt (bdr1 _) b1; obtain ⟨y0, y1, y2⟩ := K0.out w1 b10))
        all_goals (
          go_wp2_with fail
          exact bodyPost_ret (v := .tuple #[.int .i64 0, .int .i64 0, .int .i64 2]) (by simp [results, Tryd.results27, go_sem]) rfl ⟨hr.out, bt HB.out b10⟩)
    | true =>
      have CF0 := Lib.hid (CF.out true)
      have hb2 : Hid ((Fw.okS s && Ar.inB 0 cell ((zs.length : Int) - 1)) = true) := Lib.hid (by rw [h2, h3]; rfl)
      have HS2 := Lib.hid h2
      have H3 := Lib.hid h3
      rw [h3] at CI
      cases h1 : Fw.ok r c zs with
      | false =>
        have hr := Lib.hid (wwA_1 (s := s) (q := cell) h1)
        rw [h1, show Fw.cd false true = 1 from rfl] at CF0
        clear h1 h2 h3
        go_enter Tryd.func27, Tryd.ntmps27
        go_wp2_with fail
        rw [← hbx]
        clear hbx
        go_region_held3 (fun w' => w'.cell? ⟨w.heap.size, 0, none⟩ = some (.int .i64 r) ∧ w'.cell? ⟨w.heap.size, 1, none⟩ = some (.int .i64 c) ∧ w'.cell? ⟨w.heap.size, 2, none⟩ = some (.slice (some ⟨vb, 0, none⟩) zs.length vcap)) (go_keep)
          (first | (go_at_call 39; refine (CS.out _).mono ?_; rintro e w' ⟨rfl, rfl⟩) | (go_at_call 45; refine (CI.out _).mono ?_; rintro e w' ⟨rfl, rfl⟩) | (go_at_call 37; refine (CF0.out _ (bdr1 _)).mono ?_; rintro e w1 ⟨rfl, b1⟩; have b10 := bt (bdr1 _) b1; obtain ⟨y0, y1, y2⟩ := K0.out w1 b10))
        all_goals (
          go_wp2_with fail
          exact bodyPost_ret (v := .tuple #[.int .i64 0, .int .i64 0, .int .i64 1]) (by simp [results, Tryd.results27, go_sem]) rfl ⟨hr.out, bt HB.out b10⟩)
      | true =>
        have H1 := Lib.hid h1
        have hA := Lib.hid (wwA_3 h1 hb2.out)
        obtain ⟨q, rfl, hqz⟩ : ∃ q : Nat, cell = q ∧ q < zs.length := by
          have hh := H3.out
          unfold Ar.inB at hh
          simp only [Bool.and_eq_true, decide_eq_true_eq] at hh
          exact ⟨cell.toNat, by omega, by omega⟩
        rw [Int.toNat_natCast] at hA
        rw [h1, show Fw.cd true true = 0 from rfl] at CF0
        clear h1 h2 h3
        go_enter Tryd.func27, Tryd.ntmps27
        go_wp2_with fail
        rw [← hbx]
        clear hbx
        go_region_held3 (fun w' => w'.cell? ⟨w.heap.size, 0, none⟩ = some (.int .i64 r) ∧ w'.cell? ⟨w.heap.size, 1, none⟩ = some (.int .i64 c) ∧ w'.cell? ⟨w.heap.size, 2, none⟩ = some (.slice (some ⟨vb, 0, none⟩) zs.length vcap)) (go_keep)
          (first | (go_at_call 39; refine (CS.out _).mono ?_; rintro e w' ⟨rfl, rfl⟩) | (go_at_call 45; refine (CI.out _).mono ?_; rintro e w' ⟨rfl, rfl⟩) | (go_at_call 37; refine (CF0.out _ (bdr1 _)).mono ?_; rintro e w1 ⟨rfl, b1⟩; have b10 := bt (bdr1 _) b1; obtain ⟨y0, y1, y2⟩ := K0.out w1 b10))
        have KB := Lib.hid (KC.out _ b10)
        have B1 := Lib.hid (bt HB.out b10)
        clear x0 x1 x2 y0 y1 y2 CS CI CF CF0 K0 KC b1 b10
        have BW := Lib.hid (Below.refl w1.heap.size w1)
        go_wp2_with fail
        go_loopw [10, 11, 12, 29] (fun wo mo co i wr => ∃ k : Nat, k ≤ 4 ∧ i = .int .i64 k ∧ wo = .int .i64 (Fw.wwO (Fw.ww r c s zs q k)).1 ∧ mo = .int .i64 (Fw.wwO (Fw.ww r c s zs q k)).2.1 ∧ co = .int .i64 (Fw.wwO (Fw.ww r c s zs q k)).2.2 ∧ Hid (Below w1.heap.size w1 wr)) (fun _ _ _ i _ => 4 - (intOf i).toNat)
        case atStart => exact ⟨0, Nat.zero_le _, rfl, rfl, rfl, rfl, BW⟩
        case round =>
          obtain ⟨k, hk, rfl, rfl, rfl, rfl, hb⟩ := hrel
          by_cases hlt : k < 4
          · have hltz : (k : Int) < 4 := by omega
            have hds := Lib.hid (both_oneW (d := (k : Int)) ((okD_iff _).2 ⟨by omega, by omega⟩) HS2.out)
            have BA : Hid (Below wr.heap.size wr (wr.alloc (.cells #[.int .i64 k] 2))) := Lib.hid ((Below.refl _ _).alloc (Nat.le_refl _) _)
            have C := Lib.hid (implDriftGain_any (wr.alloc (.cells #[.int .i64 k] 2)) r c _ zs _ [(k : Int)] s (HO.out.all (bt B1.out (bt hb.out BA.out))) hl (one_slW wr k) (by simp) (HW.out.below (bt B1.out (bt hb.out BA.out))))
            obtain ⟨x0, x1, x2⟩ := (KB.out.all hb.out).three
            have hst : Hid (Fw.okMs (Fw.st r c k s zs) = true → ((Fw.ww r c s zs q k).1 < 0 ∨ (Fw.ww r c s zs q k).2 < (Fw.st r c k s zs).getD q 0 - zs.getD q 0) → Fw.ww r c s zs q (k + 1) = ((k : Int), (Fw.st r c k s zs).getD q 0 - zs.getD q 0)) := Lib.hid (fun h h2 => Fw.wwS_t h h2)
            have hsf : Hid (Fw.okMs (Fw.st r c k s zs) = true → ¬ ((Fw.ww r c s zs q k).1 < 0 ∨ (Fw.ww r c s zs q k).2 < (Fw.st r c k s zs).getD q 0 - zs.getD q 0) → Fw.ww r c s zs q (k + 1) = Fw.ww r c s zs q k) := Lib.hid (fun h h2 => Fw.wwS_f h h2)
            have hsn : Hid (Fw.okMs (Fw.st r c k s zs) = false → Fw.ww r c s zs q (k + 1) = Fw.ww r c s zs q k) := Lib.hid (fun h => Fw.wwS_no h)
            have hd6 : Hid (Fw.okMs (Fw.st r c k s zs) = false → Fw.drC r c zs [(k : Int)] s = 6) := Lib.hid (fun h => (Fw.dr_6 H1.out hds.out (run_one.trans (if_neg (by rw [h]; decide)))).2.2.2)
            have hd0 : Hid (Fw.okMs (Fw.st r c k s zs) = true → Fw.drC r c zs [(k : Int)] s = 0) := Lib.hid (fun h => (Fw.dr_0 H1.out hds.out (run_one.trans (if_pos h))).2.2.2)
            have hdG : Hid (Fw.okMs (Fw.st r c k s zs) = true → (Fw.dgZ r c zs [(k : Int)] s).length = zs.length ∧ (Fw.dgZ r c zs [(k : Int)] s).getD q 0 = (Fw.st r c k s zs).getD q 0 - zs.getD q 0) := Lib.hid (fun h => by
              obtain ⟨-, -, h3, h4⟩ := Fw.dr_0 H1.out hds.out (run_one.trans (if_pos h))
              have hl := Fw.st_length r c k s zs
              rw [Fw.dgZ_0 h4, h3]
              exact ⟨Fw.gn_length hl, by rw [List.getD_eq_getElem?_getD, Fw.gn_at hl q hqz]; rfl⟩)
            obtain ⟨nx, hnx⟩ : ∃ p, p = Fw.ww r c s zs q (k + 1) := ⟨_, rfl⟩
            have HNX := Lib.hid hnx
            rw [← hnx] at hst hsf hsn
            clear hnx
            generalize Fw.st r c k s zs = zt at *
            generalize Fw.ww r c s zs q k = bb at *
            obtain ⟨bd, bm⟩ := bb
            clear hds
            by_cases hbd : bd < 0
            · rw [wwO_no hbd]
              cases hm : Fw.okMs zt with
              | false =>
                have hn := Lib.hid (show Fw.wwO (Fw.ww r c s zs q (k + 1)) = (0, 0, 6) from by rw [← HNX.out, hsn.out hm]; exact wwO_no hbd)
                rw [hd6.out hm] at C
                clear hm hst hsf hsn hd6 hd0
                go_wp2_with fail
                refine C.out.mono ?_
                rintro e w2 ⟨u, rfl, o2, b2⟩
                have HBD := Lib.hid (bt hb.out (bt BA.out b2))
                clear o2 b2
                go_wp2_with fail
                exact ⟨⟨k + 1, by omega, by go_num, by rw [hn.out], by rw [hn.out], by rw [hn.out], HBD⟩, by simp only [intOf]; omega⟩
              | true =>
                have hdc := hd0.out hm
                have hdg := hdG.out hm
                rw [hdc] at C
                have hst1 := Lib.hid (hst.out hm)
                have hsf1 := Lib.hid (hsf.out hm)
                clear hm hst hsf hsn hd6 hd0 hdc hdG
                go_wp2_with fail
                refine C.out.mono ?_
                rintro e w2 ⟨u, rfl, o2, b2⟩
                have HBD0 := Lib.hid (bt hb.out (bt BA.out b2))
                obtain ⟨hGl, hGq⟩ := hdg
                generalize Fw.dgZ r c zs [(k : Int)] s = G at *
                obtain ⟨g2, cp2, rfl, -, -⟩ := World.ownsRow.form o2 (by omega)
                have l1 := own_atD o2 (k := q) (by omega)
                rw [hGq] at l1
                have qb0 : (0 : Int) ≤ (q : Int) := by omega
                have qb1 : (q : Int) < (G.length : Int) := by omega
                clear o2 b2 C hGq hGl BA x0 x1 x2 hb
                generalize zt.getD q 0 - zs.getD q 0 = dd at *
                have hn := Lib.hid (show Fw.wwO (Fw.ww r c s zs q (k + 1)) = ((k : Int), dd, 0) from by rw [← HNX.out, hst1.out (Or.inl hbd)]; exact wwO_yes (show ¬ ((k : Int), dd).1 < 0 by show ¬ (k : Int) < 0; omega))
                go_wp2_with fail
                go_region_held3 (fun w' => w'.cell? ⟨g2, q, none⟩ = some (.int .i64 dd)) (go_keep) (fail)
                have HBD := Lib.hid (bt HBD0.out (bdr1 _))
                clear l1
                go_wp2_with fail
                exact ⟨⟨k + 1, by omega, by go_num, by rw [hn.out], by rw [hn.out], by rw [hn.out], HBD⟩, by simp only [intOf]; omega⟩
            · rw [wwO_yes hbd]
              cases hm : Fw.okMs zt with
              | false =>
                have hn := Lib.hid (show Fw.wwO (Fw.ww r c s zs q (k + 1)) = (bd, bm, 0) from by rw [← HNX.out, hsn.out hm]; exact wwO_yes hbd)
                rw [hd6.out hm] at C
                clear hm hst hsf hsn hd6 hd0
                go_wp2_with fail
                refine C.out.mono ?_
                rintro e w2 ⟨u, rfl, o2, b2⟩
                have HBD := Lib.hid (bt hb.out (bt BA.out b2))
                clear o2 b2
                go_wp2_with fail
                exact ⟨⟨k + 1, by omega, by go_num, by rw [hn.out], by rw [hn.out], by rw [hn.out], HBD⟩, by simp only [intOf]; omega⟩
              | true =>
                have hdc := hd0.out hm
                have hdg := hdG.out hm
                rw [hdc] at C
                have hst1 := Lib.hid (hst.out hm)
                have hsf1 := Lib.hid (hsf.out hm)
                clear hm hst hsf hsn hd6 hd0 hdc hdG
                go_wp2_with fail
                refine C.out.mono ?_
                rintro e w2 ⟨u, rfl, o2, b2⟩
                have HBD0 := Lib.hid (bt hb.out (bt BA.out b2))
                obtain ⟨hGl, hGq⟩ := hdg
                generalize Fw.dgZ r c zs [(k : Int)] s = G at *
                obtain ⟨g2, cp2, rfl, -, -⟩ := World.ownsRow.form o2 (by omega)
                have l1 := own_atD o2 (k := q) (by omega)
                rw [hGq] at l1
                have qb0 : (0 : Int) ≤ (q : Int) := by omega
                have qb1 : (q : Int) < (G.length : Int) := by omega
                clear o2 b2 C hGq hGl BA x0 x1 x2 hb
                generalize zt.getD q 0 - zs.getD q 0 = dd at *
                by_cases hbm : bm < dd
                · have hn := Lib.hid (show Fw.wwO (Fw.ww r c s zs q (k + 1)) = ((k : Int), dd, 0) from by rw [← HNX.out, hst1.out (Or.inr hbm)]; exact wwO_yes (show ¬ ((k : Int), dd).1 < 0 by show ¬ (k : Int) < 0; omega))
                  go_wp2_with fail
                  go_region_held3 (fun w' => w'.cell? ⟨g2, q, none⟩ = some (.int .i64 dd)) (go_keep) (fail)
                  have HBD := Lib.hid (bt HBD0.out (bdr1 _))
                  clear l1
                  go_wp2_with fail
                  exact ⟨⟨k + 1, by omega, by go_num, by rw [hn.out], by rw [hn.out], by rw [hn.out], HBD⟩, by simp only [intOf]; omega⟩
                · have hn := Lib.hid (show Fw.wwO (Fw.ww r c s zs q (k + 1)) = (bd, bm, 0) from by rw [← HNX.out, hsf1.out (fun h => by omega)]; exact wwO_yes (by show ¬ bd < 0; omega))
                  have HBD := Lib.hid HBD0.out
                  go_wp2_with fail
                  exact ⟨⟨k + 1, by omega, by go_num, by rw [hn.out], by rw [hn.out], by rw [hn.out], HBD⟩, by simp only [intOf]; omega⟩
          · have hltz : ¬ (k : Int) < 4 := by omega
            obtain rfl : k = 4 := by omega
            have hr := Lib.hid (P3.mk (p := Fw.wwA r c zs s q) (a := (Fw.wwO (Fw.ww r c s zs q 4)).1) (b := (Fw.wwO (Fw.ww r c s zs q 4)).2.1) (d := (Fw.wwO (Fw.ww r c s zs q 4)).2.2) hA.out)
            generalize Fw.wwO (Fw.ww r c s zs q 4) = bb at *
            obtain ⟨b1, b2, b3⟩ := bb
            go_wp2_with fail
            exact bodyPost_ret (v := .tuple #[.int .i64 b1, .int .i64 b2, .int .i64 b3]) (by simp [results, Tryd.results27, go_sem]) rfl ⟨hr.out, bt B1.out hb.out⟩
end Go.Proofs.YtmidihmbehaegaaDoor

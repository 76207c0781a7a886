/-
  Chapter 7 by the program: the code of a question about a snowpack. No condition of its own.
-/
import Derived.Test.YtaldmdammipfjaaDoorStG
import Derived.Test.YtaldmdammipfjaaDoorStJ
namespace Go.Proofs.YtaldmdammipfjaaDoor
open Go.RowKit Go.Shelf
set_option linter.unusedVariables false
set_option maxRecDepth 100000

/-- slope, doubt and limit of a snowpack, as the program asks for them -/
def us3 (ri ru d t : Int) : List (Value × Bool) := [(.iface 100 (.agg #[.int .i64 ri, .int .i64 ru]), Sb.slo ri ru), (.iface 101 (.int .i64 d), Ar.inB 0 d 1000), (.iface 102 (.int .i64 t), Sb.lim t)]
def sdt (ri ru d t : Int) : Bool := Sb.sd ri ru d && Sb.lim t
theorem all_us3 (ri ru d t : Int) : allS (us3 ri ru d t) = sdt ri ru d t := by
  unfold allS us3 sdt Sb.sd
  simp only [List.all_cons, List.all_nil, Bool.and_true, Bool.and_assoc]
def obj3 (ri ru d t : Int) (T : TypeId) : Obj := .cells #[.iface 100 (.agg #[.int .i64 ri, .int .i64 ru]), .iface 101 (.int .i64 d), .iface 102 (.int .i64 t)] T
theorem us3_new (w : World) (ri ru d t : Int) (T : TypeId) : StS (w.alloc (obj3 ri ru d t T)) (.slice (some ⟨w.heap.size, 0, none⟩) 3 3) (us3 ri ru d t) := by
  refine Or.inr ⟨w.heap.size, 0, 3, rfl, by simp, fun j hj => ?_⟩
  have h := fun j => cell_of_row _ w.heap.size j _ T (0, 0) (heap_alloc_new w (obj3 ri ru d t T))
  have hj3 : j < 3 := hj
  rcases j with _ | _ | _ | j
  · exact ⟨h 0, fun W => lit_slope ri ru W⟩
  · exact ⟨h 1, fun W => lit_doubt d W⟩
  · exact ⟨h 2, fun W => lit_limit t W⟩
  · omega
theorem below_ad1 (w : World) (o : Obj) : Below w.heap.size w (w.alloc o).drew := bt ((Below.refl _ _).alloc (Nat.le_refl _) _) (below_drewW _ 1)
theorem below_al (w : World) (o : Obj) : Below w.heap.size w (w.alloc o) := (Below.refl _ _).alloc (Nat.le_refl _) _
set_option maxHeartbeats 6400000 in
theorem code_t (w : World) (v u : Value) (xs : List Lay) (us : List (Value × Bool)) (ri ru d t m : Int) (hv : LSl w v xs) (hl : xs.length ≤ 1048576) (hu : StS w u us) (hul : us.length ≤ 1048576) (hs : sdt ri ru d t = true) :
    Calls Tryd.prog 64 #[.agg #[v, .int .i64 ri, .int .i64 ru, .int .i64 d, .int .i64 t, .int .i64 m], u] w fun e w' => e = .returned (.int .i64 (Sb.cd (La.okP xs) (allS us))) ∧ Below w.heap.size w w' := by
  obtain ⟨W2, hW2⟩ : ∃ W, W = boxP w v ri ru d t m 104 := ⟨_, rfl⟩
  have HB : Hid (Below w.heap.size w W2) := Lib.hid (by rw [hW2]; exact boxP_below ..)
  have KK : Hid (∀ W, Below W2.heap.size W2 W → PC W w.heap.size v ri ru d t m) := Lib.hid (fun W h => by
    have c := boxP_cells w v ri ru d t m 104
    rw [← hW2] at c
    exact c.all h)
  have CV := Lib.hid (fun W (h : Below W2.heap.size W2 W) => implValidProfile_any W v xs (hv.below (bt HB.out h)) hl)
  have CA := Lib.hid (fun W s (h : StS W s (us3 ri ru d t)) => areStated_any W s (us3 ri ru d t) (Nat.le_of_ble_eq_true rfl) h)
  rw [all_us3, hs] at CA
  have CO := Lib.hid (fun W (h : Below W2.heap.size W2 W) => areStated_any W u us hul (hu.below (bt HB.out h)))
  have CC := Lib.hid (fun b W => statedCode_any (La.okP xs) b W)
  rw [show stc = Sb.cd from rfl] at CC
  obtain ⟨x0, x1, x2, x3, x4, x5⟩ := (KK.out W2 (Below.refl _ _)).six
  obtain ⟨a, cap, rfl⟩ := hv.form
  obtain ⟨a2, cap2, rfl⟩ := hu.form
  have hbx : boxP w (.slice a xs.length cap) ri ru d t m 104 = w.alloc (.cells #[.slice a xs.length cap, .int .i64 ri, .int .i64 ru, .int .i64 d, .int .i64 t, .int .i64 m] 104) := rfl
  clear hv hu hs
  generalize La.okP xs = p at *
  generalize allS us = q at *
  generalize us.length = n2 at *
  go_enter Tryd.func64, Tryd.ntmps64
  go_wp2_with fail
  rw [← hbx, ← hW2]
  clear hbx hW2
  go_region_held3 (fun w' => w'.cell? ⟨w.heap.size, 0, none⟩ = some (.slice a xs.length cap) ∧ w'.cell? ⟨w.heap.size, 1, none⟩ = some (.int .i64 ri) ∧ w'.cell? ⟨w.heap.size, 2, none⟩ = some (.int .i64 ru) ∧ w'.cell? ⟨w.heap.size, 3, none⟩ = some (.int .i64 d) ∧ w'.cell? ⟨w.heap.size, 4, none⟩ = some (.int .i64 t)) (go_keep)
    (first
      | (go_at_call 104; refine (CV.out _ (by first | exact below_drewW _ 1 | exact below_ad1 _ _ | exact bB0 | exact bC0)).mono ?_; rintro e wA ⟨rfl, bA⟩; have bA0 : Below W2.heap.size W2 wA := (by first | exact bt bC0 bA | exact bt bB0 bA | exact bt (below_drewW _ 1) bA | exact bt (below_ad1 _ _) bA); obtain ⟨y0, y1, y2, y3, y4, y5⟩ := (KK.out wA bA0).six)
      | (go_at_call 105; refine (CO.out _ (by first | exact bA0 | exact bB0)).mono ?_; rintro e wC ⟨rfl, bC⟩; have bC0 : Below W2.heap.size W2 wC := (by first | exact bt bA0 bC | exact bt bB0 bC); obtain ⟨u0, u1, u2, u3, u4, u5⟩ := (KK.out wC bC0).six)
      | (go_at_call 105; refine (CA.out _ _ (by first | exact (us3_new W2 ri ru d t _).below (below_drewW _ 1) | exact us3_new wA ri ru d t _ | exact ((us3_new W2 ri ru d t _).below (below_drewW _ 1)).below bA)).mono ?_; rintro e wB ⟨rfl, bB⟩; have bB0 : Below W2.heap.size W2 wB := (by first | exact bt (below_ad1 _ _) bB | exact bt (bt bA0 (below_al _ _)) bB | exact bt bA0 bB); obtain ⟨z0, z1, z2, z3, z4, z5⟩ := (KK.out wB bB0).six)
      | (go_at_call 72; refine (CC.out _ _).mono ?_; rintro e wD ⟨rfl, rfl⟩))
  all_goals (
    go_wp2_with fail
    go_ret
    exact ⟨rfl, bt HB.out (by first | exact bC0 | exact bA0)⟩)
set_option maxHeartbeats 6400000 in
theorem code_f (w : World) (v u : Value) (xs : List Lay) (us : List (Value × Bool)) (ri ru d t m : Int) (hv : LSl w v xs) (hl : xs.length ≤ 1048576) (hu : StS w u us) (hul : us.length ≤ 1048576) (hs : sdt ri ru d t = false) :
    Calls Tryd.prog 64 #[.agg #[v, .int .i64 ri, .int .i64 ru, .int .i64 d, .int .i64 t, .int .i64 m], u] w fun e w' => e = .returned (.int .i64 (Sb.cd (La.okP xs) false)) ∧ Below w.heap.size w w' := by
  obtain ⟨W2, hW2⟩ : ∃ W, W = boxP w v ri ru d t m 104 := ⟨_, rfl⟩
  have HB : Hid (Below w.heap.size w W2) := Lib.hid (by rw [hW2]; exact boxP_below ..)
  have KK : Hid (∀ W, Below W2.heap.size W2 W → PC W w.heap.size v ri ru d t m) := Lib.hid (fun W h => by
    have c := boxP_cells w v ri ru d t m 104
    rw [← hW2] at c
    exact c.all h)
  have CV := Lib.hid (fun W (h : Below W2.heap.size W2 W) => implValidProfile_any W v xs (hv.below (bt HB.out h)) hl)
  have CA := Lib.hid (fun W s (h : StS W s (us3 ri ru d t)) => areStated_any W s (us3 ri ru d t) (Nat.le_of_ble_eq_true rfl) h)
  rw [all_us3, hs] at CA
  have CC := Lib.hid (fun b W => statedCode_any (La.okP xs) b W)
  rw [show stc = Sb.cd from rfl] at CC
  obtain ⟨x0, x1, x2, x3, x4, x5⟩ := (KK.out W2 (Below.refl _ _)).six
  obtain ⟨a, cap, rfl⟩ := hv.form
  obtain ⟨a2, cap2, rfl⟩ := hu.form
  have hbx : boxP w (.slice a xs.length cap) ri ru d t m 104 = w.alloc (.cells #[.slice a xs.length cap, .int .i64 ri, .int .i64 ru, .int .i64 d, .int .i64 t, .int .i64 m] 104) := rfl
  clear hv hu hs
  generalize La.okP xs = p at *
  generalize us.length = n2 at *
  go_enter Tryd.func64, Tryd.ntmps64
  go_wp2_with fail
  rw [← hbx, ← hW2]
  clear hbx hW2
  refine wp_region_held_drew (S := (fun w' => w'.cell? ⟨w.heap.size, 0, none⟩ = some (.slice a xs.length cap) ∧ w'.cell? ⟨w.heap.size, 1, none⟩ = some (.int .i64 ri) ∧ w'.cell? ⟨w.heap.size, 2, none⟩ = some (.int .i64 ru) ∧ w'.cell? ⟨w.heap.size, 3, none⟩ = some (.int .i64 d) ∧ w'.cell? ⟨w.heap.size, 4, none⟩ = some (.int .i64 t))) (by kernel_rfl) ?_ (fun hHeld => ?_)
  · (try dsimp only)
    first | done | go_keep
  refine wpAnyH_take (i := 0) (oi := ({ dst := some 5, op := Op.fieldAddr 104 (Operand.tmp 2) 0, type := 0, pos := "l07_stability.go:178", after := #[], guard := none } : Oper)) (v := ?_) rfl (by kernel_rfl) (by kernel_rfl) (by kernel_rfl) (fun _ _ _ h => h) (Or.inl ⟨by rfl, ?_⟩) (by assumption) ?_
  rotate_left
  · (intro w hSw; (try dsimp only at hSw); go_simp <;> with_reducible rfl)
  try simp only [Act.put, List.setIfInBounds_toArray, List.set_cons_zero, List.set_cons_succ]
  refine wpAnyH_take (i := 1) (oi := ({ dst := some 6, op := Op.load 60 (Operand.tmp 5), type := 60, pos := "l07_stability.go:178", after := #[{ on := 0, ground := Ground.data }], guard := none } : Oper)) (v := ?_) rfl (by kernel_rfl) (by kernel_rfl) (by kernel_rfl) (fun _ _ _ h => h) (Or.inl ⟨by rfl, ?_⟩) (by assumption) ?_
  rotate_left
  · (intro w hSw; (try dsimp only at hSw); go_simp <;> with_reducible rfl)
  try simp only [Act.put, List.setIfInBounds_toArray, List.set_cons_zero, List.set_cons_succ]
  refine wpAnyH_take (i := 3) (oi := ({ dst := some 8, op := Op.fieldAddr 104 (Operand.tmp 2) 1, type := 0, pos := "l07_stability.go:178", after := #[], guard := none } : Oper)) (v := ?_) rfl (by kernel_rfl) (by kernel_rfl) (by kernel_rfl) (fun _ _ _ h => h) (Or.inl ⟨by rfl, ?_⟩) (by assumption) ?_
  rotate_left
  · (intro w hSw; (try dsimp only at hSw); go_simp <;> with_reducible rfl)
  try simp only [Act.put, List.setIfInBounds_toArray, List.set_cons_zero, List.set_cons_succ]
  refine wpAnyH_take (i := 4) (oi := ({ dst := some 9, op := Op.load 100 (Operand.tmp 8), type := 100, pos := "l07_stability.go:178", after := #[{ on := 3, ground := Ground.data }], guard := none } : Oper)) (v := ?_) rfl (by kernel_rfl) (by kernel_rfl) (by kernel_rfl) (fun _ _ _ h => h) (Or.inl ⟨by rfl, ?_⟩) (by assumption) ?_
  rotate_left
  · (intro w hSw; (try dsimp only at hSw); go_simp <;> with_reducible rfl)
  try simp only [Act.put, List.setIfInBounds_toArray, List.set_cons_zero, List.set_cons_succ]
  refine wpAnyH_take (i := 5) (oi := ({ dst := some 10, op := Op.makeInterface 100 (Operand.tmp 9), type := 178, pos := "l07_stability.go:178", after := #[{ on := 4, ground := Ground.data }], guard := none } : Oper)) (v := ?_) rfl (by kernel_rfl) (by kernel_rfl) (by kernel_rfl) (fun _ _ _ h => h) (Or.inl ⟨by rfl, ?_⟩) (by assumption) ?_
  rotate_left
  · (intro w hSw; (try dsimp only at hSw); go_simp <;> with_reducible rfl)
  try simp only [Act.put, List.setIfInBounds_toArray, List.set_cons_zero, List.set_cons_succ]
  refine wpAnyH_take (i := 6) (oi := ({ dst := some 11, op := Op.fieldAddr 104 (Operand.tmp 2) 2, type := 0, pos := "l07_stability.go:178", after := #[], guard := none } : Oper)) (v := ?_) rfl (by kernel_rfl) (by kernel_rfl) (by kernel_rfl) (fun _ _ _ h => h) (Or.inl ⟨by rfl, ?_⟩) (by assumption) ?_
  rotate_left
  · (intro w hSw; (try dsimp only at hSw); go_simp <;> with_reducible rfl)
  try simp only [Act.put, List.setIfInBounds_toArray, List.set_cons_zero, List.set_cons_succ]
  refine wpAnyH_take (i := 7) (oi := ({ dst := some 12, op := Op.load 101 (Operand.tmp 11), type := 101, pos := "l07_stability.go:178", after := #[{ on := 6, ground := Ground.data }], guard := none } : Oper)) (v := ?_) rfl (by kernel_rfl) (by kernel_rfl) (by kernel_rfl) (fun _ _ _ h => h) (Or.inl ⟨by rfl, ?_⟩) (by assumption) ?_
  rotate_left
  · (intro w hSw; (try dsimp only at hSw); go_simp <;> with_reducible rfl)
  try simp only [Act.put, List.setIfInBounds_toArray, List.set_cons_zero, List.set_cons_succ]
  refine wpAnyH_take (i := 8) (oi := ({ dst := some 13, op := Op.makeInterface 101 (Operand.tmp 12), type := 178, pos := "l07_stability.go:178", after := #[{ on := 7, ground := Ground.data }], guard := none } : Oper)) (v := ?_) rfl (by kernel_rfl) (by kernel_rfl) (by kernel_rfl) (fun _ _ _ h => h) (Or.inl ⟨by rfl, ?_⟩) (by assumption) ?_
  rotate_left
  · (intro w hSw; (try dsimp only at hSw); go_simp <;> with_reducible rfl)
  try simp only [Act.put, List.setIfInBounds_toArray, List.set_cons_zero, List.set_cons_succ]
  refine wpAnyH_take (i := 9) (oi := ({ dst := some 14, op := Op.fieldAddr 104 (Operand.tmp 2) 3, type := 0, pos := "l07_stability.go:178", after := #[], guard := none } : Oper)) (v := ?_) rfl (by kernel_rfl) (by kernel_rfl) (by kernel_rfl) (fun _ _ _ h => h) (Or.inl ⟨by rfl, ?_⟩) (by assumption) ?_
  rotate_left
  · (intro w hSw; (try dsimp only at hSw); go_simp <;> with_reducible rfl)
  try simp only [Act.put, List.setIfInBounds_toArray, List.set_cons_zero, List.set_cons_succ]
  refine wpAnyH_take (i := 10) (oi := ({ dst := some 15, op := Op.load 102 (Operand.tmp 14), type := 102, pos := "l07_stability.go:178", after := #[{ on := 9, ground := Ground.data }], guard := none } : Oper)) (v := ?_) rfl (by kernel_rfl) (by kernel_rfl) (by kernel_rfl) (fun _ _ _ h => h) (Or.inl ⟨by rfl, ?_⟩) (by assumption) ?_
  rotate_left
  · (intro w hSw; (try dsimp only at hSw); go_simp <;> with_reducible rfl)
  try simp only [Act.put, List.setIfInBounds_toArray, List.set_cons_zero, List.set_cons_succ]
  refine wpAnyH_take (i := 11) (oi := ({ dst := some 16, op := Op.makeInterface 102 (Operand.tmp 15), type := 178, pos := "l07_stability.go:178", after := #[{ on := 10, ground := Ground.data }], guard := none } : Oper)) (v := ?_) rfl (by kernel_rfl) (by kernel_rfl) (by kernel_rfl) (fun _ _ _ h => h) (Or.inl ⟨by rfl, ?_⟩) (by assumption) ?_
  rotate_left
  · (intro w hSw; (try dsimp only at hSw); go_simp <;> with_reducible rfl)
  try simp only [Act.put, List.setIfInBounds_toArray, List.set_cons_zero, List.set_cons_succ]
  refine wpAnyH_ready (rs := [2, 12]) (by kernel_rfl) (by simp) ?_
  refine AllReadyH.cons (o := ({ dst := some 7, op := Op.call { callee := Callee.value (Operand.func 104), args := #[Operand.tmp 6], argTypes := #[60] }, type := 4, pos := "l07_stability.go:178", after := #[{ on := 1, ground := Ground.data }], guard := none } : Oper)) rfl (fun K hK => ?_) ?_
  · go_simp
    (refine (CV.out _ (below_drewW _ 1)).mono ?_; rintro e wA ⟨rfl, bA⟩; have bA0 : Below W2.heap.size W2 wA := bt (below_drewW _ 1) bA; obtain ⟨y0, y1, y2, y3, y4, y5⟩ := (KK.out wA bA0).six)
    go_wp2_with fail
    refine hK.out _ _ ?_ (fun hHeld => ?_)
    · (try dsimp only)
      first | done | go_keep
    clear hK K
    try simp only [Act.put, List.setIfInBounds_toArray, List.set_cons_zero, List.set_cons_succ]
    refine wpAnyH_ready (rs := [12]) (by kernel_rfl) (by simp) ?_
    refine AllReadyH.cons (o := ({ dst := some 17, op := Op.buildSlice 138 3 #[(0, Operand.tmp 10), (1, Operand.tmp 13), (2, Operand.tmp 16)], type := 138, pos := "l07_stability.go:178", after := #[{ on := 5, ground := Ground.data }, { on := 8, ground := Ground.data }, { on := 11, ground := Ground.data }], guard := none } : Oper)) rfl (fun K hK => ?_) ?_
    · go_simp
      refine hK.out _ _ ?_ (fun hHeld => ?_)
      · (try dsimp only)
        first | done | go_keep
      clear hK K
      try simp only [Act.put, List.setIfInBounds_toArray, List.set_cons_zero, List.set_cons_succ]
      refine wpAnyH_ready (rs := [13]) (by kernel_rfl) (by simp) ?_
      refine AllReadyH.cons (o := ({ dst := some 18, op := Op.call { callee := Callee.value (Operand.func 105), args := #[Operand.tmp 17], argTypes := #[138] }, type := 4, pos := "l07_stability.go:178", after := #[{ on := 12, ground := Ground.data }, { on := 2, ground := Ground.chain }], guard := none } : Oper)) rfl (fun K hK => ?_) ?_
      · go_simp
        (refine (CA.out _ _ (us3_new wA ri ru d t _)).mono ?_; rintro e wB ⟨rfl, bB⟩; have bB0 : Below W2.heap.size W2 wB := bt (bt bA0 (below_al _ _)) bB; obtain ⟨z0, z1, z2, z3, z4, z5⟩ := (KK.out wB bB0).six)
        go_wp2_with fail
        refine hK.out _ _ ?_ (fun hHeld => ?_)
        · (try dsimp only)
          first | done | go_keep
        clear hK K
        try simp only [Act.put, List.setIfInBounds_toArray, List.set_cons_zero, List.set_cons_succ]
        refine wpAnyH_take (i := 14) (oi := ({ dst := some 19, op := Op.move (Operand.tmp 18), type := 4, pos := "l07_stability.go:178", after := #[{ on := 13, ground := Ground.data }, { on := 13, ground := Ground.chain }], guard := none } : Oper)) (v := ?_) rfl (by kernel_rfl) (by kernel_rfl) (by kernel_rfl) (fun _ _ _ h => h) (Or.inl ⟨by rfl, ?_⟩) (by assumption) ?_
        rotate_left
        · (intro w hSw; (try dsimp only at hSw); go_simp <;> with_reducible rfl)
        try simp only [Act.put, List.setIfInBounds_toArray, List.set_cons_zero, List.set_cons_succ]
        refine wpAnyH_ready (rs := [15]) (by kernel_rfl) (by simp) ?_
        refine AllReadyH.cons (o := ({ dst := some 20, op := Op.move (Operand.tmp 1), type := 138, pos := "l07_stability.go:178", after := #[{ on := 14, ground := Ground.guard }], guard := some (14, true) } : Oper)) rfl (fun K hK => ?_) ?_
        · go_simp
          refine hK.out _ _ ?_ (fun hHeld => ?_)
          · (try dsimp only)
            first | done | go_keep
          clear hK K
          try simp only [Act.put, List.setIfInBounds_toArray, List.set_cons_zero, List.set_cons_succ]
          refine wpAnyH_ready (rs := [16]) (by kernel_rfl) (by simp) ?_
          refine AllReadyH.cons (o := ({ dst := some 21, op := Op.call { callee := Callee.value (Operand.func 105), args := #[Operand.tmp 20], argTypes := #[138] }, type := 4, pos := "l07_stability.go:178", after := #[{ on := 15, ground := Ground.data }, { on := 14, ground := Ground.chain }, { on := 14, ground := Ground.guard }], guard := some (14, true) } : Oper)) rfl (fun K hK => ?_) ?_
          · go_simp
            refine hK.out _ _ ?_ (fun hHeld => ?_)
            · (try dsimp only)
              first | done | go_keep
            clear hK K
            try simp only [Act.put, List.setIfInBounds_toArray, List.set_cons_zero, List.set_cons_succ]
            refine wpAnyH_take (i := 17) (oi := ({ dst := some 22, op := Op.pick (Operand.tmp 19) (Operand.tmp 21) (Operand.const (Value.bool false)), type := 4, pos := "l07_stability.go:178", after := #[{ on := 14, ground := Ground.data }, { on := 16, ground := Ground.data }], guard := none } : Oper)) (v := ?_) rfl (by kernel_rfl) (by kernel_rfl) (by kernel_rfl) (fun _ _ _ h => h) (Or.inl ⟨by rfl, ?_⟩) (by assumption) ?_
            rotate_left
            · (intro w hSw; (try dsimp only at hSw); go_simp <;> with_reducible rfl)
            try simp only [Act.put, List.setIfInBounds_toArray, List.set_cons_zero, List.set_cons_succ]
            refine wpAnyH_ready (rs := [18]) (by kernel_rfl) (by simp) ?_
            refine AllReadyH.cons (o := ({ dst := some 23, op := Op.call { callee := Callee.value (Operand.func 72), args := #[Operand.tmp 7, Operand.tmp 22], argTypes := #[4, 4] }, type := 2, pos := "l07_stability.go:178", after := #[{ on := 2, ground := Ground.data }, { on := 17, ground := Ground.data }, { on := 16, ground := Ground.chain }], guard := none } : Oper)) rfl (fun K hK => ?_) ?_
            · go_simp
              (refine (CC.out _ _).mono ?_; rintro e wD ⟨rfl, rfl⟩)
              go_wp2_with fail
              refine hK.out _ _ ?_ (fun hHeld => ?_)
              · (try dsimp only)
                first | done | go_keep
              clear hK K
              try simp only [Act.put, List.setIfInBounds_toArray, List.set_cons_zero, List.set_cons_succ]
              refine wpAnyH_take (i := 19) (oi := ({ dst := some 4, op := Op.assign (Operand.tmp 23), type := 2, pos := "l07_stability.go:178", after := #[{ on := 18, ground := Ground.data }, { on := 18, ground := Ground.chain }, { on := 0, ground := Ground.phase }, { on := 1, ground := Ground.phase }, { on := 2, ground := Ground.phase }, { on := 3, ground := Ground.phase }, { on := 4, ground := Ground.phase }, { on := 5, ground := Ground.phase }, { on := 6, ground := Ground.phase }, { on := 7, ground := Ground.phase }, { on := 8, ground := Ground.phase }, { on := 9, ground := Ground.phase }, { on := 10, ground := Ground.phase }, { on := 11, ground := Ground.phase }, { on := 12, ground := Ground.phase }, { on := 13, ground := Ground.phase }, { on := 14, ground := Ground.phase }, { on := 15, ground := Ground.phase }, { on := 16, ground := Ground.phase }, { on := 17, ground := Ground.phase }, { on := 18, ground := Ground.phase }], guard := none } : Oper)) (v := ?_) rfl (by kernel_rfl) (by kernel_rfl) (by kernel_rfl) (fun _ _ _ h => h) (Or.inl ⟨by rfl, ?_⟩) (by assumption) ?_
              rotate_left
              · (intro w hSw; (try dsimp only at hSw); go_simp <;> with_reducible rfl)
              try simp only [Act.put, List.setIfInBounds_toArray, List.set_cons_zero, List.set_cons_succ]
              refine wpAnyH_done (by kernel_rfl) ?_ _
              go_wp2_with fail
              go_ret
              exact ⟨rfl, bt HB.out bB0⟩
            exact AllReadyH.nil
          exact AllReadyH.nil
        exact AllReadyH.nil
      exact AllReadyH.nil
    exact AllReadyH.nil
  refine AllReadyH.cons (o := ({ dst := some 17, op := Op.buildSlice 138 3 #[(0, Operand.tmp 10), (1, Operand.tmp 13), (2, Operand.tmp 16)], type := 138, pos := "l07_stability.go:178", after := #[{ on := 5, ground := Ground.data }, { on := 8, ground := Ground.data }, { on := 11, ground := Ground.data }], guard := none } : Oper)) rfl (fun K hK => ?_) ?_
  · go_simp
    refine hK.out _ _ ?_ (fun hHeld => ?_)
    · (try dsimp only)
      first | done | go_keep
    clear hK K
    try simp only [Act.put, List.setIfInBounds_toArray, List.set_cons_zero, List.set_cons_succ]
    refine wpAnyH_ready (rs := [2]) (by kernel_rfl) (by simp) ?_
    refine AllReadyH.cons (o := ({ dst := some 7, op := Op.call { callee := Callee.value (Operand.func 104), args := #[Operand.tmp 6], argTypes := #[60] }, type := 4, pos := "l07_stability.go:178", after := #[{ on := 1, ground := Ground.data }], guard := none } : Oper)) rfl (fun K hK => ?_) ?_
    · go_simp
      (refine (CV.out _ (below_ad1 _ _)).mono ?_; rintro e wA ⟨rfl, bA⟩; have bA0 : Below W2.heap.size W2 wA := bt (below_ad1 _ _) bA; obtain ⟨y0, y1, y2, y3, y4, y5⟩ := (KK.out wA bA0).six)
      go_wp2_with fail
      refine hK.out _ _ ?_ (fun hHeld => ?_)
      · (try dsimp only)
        first | done | go_keep
      clear hK K
      try simp only [Act.put, List.setIfInBounds_toArray, List.set_cons_zero, List.set_cons_succ]
      refine wpAnyH_ready (rs := [13]) (by kernel_rfl) (by simp) ?_
      refine AllReadyH.cons (o := ({ dst := some 18, op := Op.call { callee := Callee.value (Operand.func 105), args := #[Operand.tmp 17], argTypes := #[138] }, type := 4, pos := "l07_stability.go:178", after := #[{ on := 12, ground := Ground.data }, { on := 2, ground := Ground.chain }], guard := none } : Oper)) rfl (fun K hK => ?_) ?_
      · go_simp
        (refine (CA.out _ _ (((us3_new W2 ri ru d t _).below (below_drewW _ 1)).below bA)).mono ?_; rintro e wB ⟨rfl, bB⟩; have bB0 : Below W2.heap.size W2 wB := bt bA0 bB; obtain ⟨z0, z1, z2, z3, z4, z5⟩ := (KK.out wB bB0).six)
        go_wp2_with fail
        refine hK.out _ _ ?_ (fun hHeld => ?_)
        · (try dsimp only)
          first | done | go_keep
        clear hK K
        try simp only [Act.put, List.setIfInBounds_toArray, List.set_cons_zero, List.set_cons_succ]
        refine wpAnyH_take (i := 14) (oi := ({ dst := some 19, op := Op.move (Operand.tmp 18), type := 4, pos := "l07_stability.go:178", after := #[{ on := 13, ground := Ground.data }, { on := 13, ground := Ground.chain }], guard := none } : Oper)) (v := ?_) rfl (by kernel_rfl) (by kernel_rfl) (by kernel_rfl) (fun _ _ _ h => h) (Or.inl ⟨by rfl, ?_⟩) (by assumption) ?_
        rotate_left
        · (intro w hSw; (try dsimp only at hSw); go_simp <;> with_reducible rfl)
        try simp only [Act.put, List.setIfInBounds_toArray, List.set_cons_zero, List.set_cons_succ]
        refine wpAnyH_ready (rs := [15]) (by kernel_rfl) (by simp) ?_
        refine AllReadyH.cons (o := ({ dst := some 20, op := Op.move (Operand.tmp 1), type := 138, pos := "l07_stability.go:178", after := #[{ on := 14, ground := Ground.guard }], guard := some (14, true) } : Oper)) rfl (fun K hK => ?_) ?_
        · go_simp
          refine hK.out _ _ ?_ (fun hHeld => ?_)
          · (try dsimp only)
            first | done | go_keep
          clear hK K
          try simp only [Act.put, List.setIfInBounds_toArray, List.set_cons_zero, List.set_cons_succ]
          refine wpAnyH_ready (rs := [16]) (by kernel_rfl) (by simp) ?_
          refine AllReadyH.cons (o := ({ dst := some 21, op := Op.call { callee := Callee.value (Operand.func 105), args := #[Operand.tmp 20], argTypes := #[138] }, type := 4, pos := "l07_stability.go:178", after := #[{ on := 15, ground := Ground.data }, { on := 14, ground := Ground.chain }, { on := 14, ground := Ground.guard }], guard := some (14, true) } : Oper)) rfl (fun K hK => ?_) ?_
          · go_simp
            refine hK.out _ _ ?_ (fun hHeld => ?_)
            · (try dsimp only)
              first | done | go_keep
            clear hK K
            try simp only [Act.put, List.setIfInBounds_toArray, List.set_cons_zero, List.set_cons_succ]
            refine wpAnyH_take (i := 17) (oi := ({ dst := some 22, op := Op.pick (Operand.tmp 19) (Operand.tmp 21) (Operand.const (Value.bool false)), type := 4, pos := "l07_stability.go:178", after := #[{ on := 14, ground := Ground.data }, { on := 16, ground := Ground.data }], guard := none } : Oper)) (v := ?_) rfl (by kernel_rfl) (by kernel_rfl) (by kernel_rfl) (fun _ _ _ h => h) (Or.inl ⟨by rfl, ?_⟩) (by assumption) ?_
            rotate_left
            · (intro w hSw; (try dsimp only at hSw); go_simp <;> with_reducible rfl)
            try simp only [Act.put, List.setIfInBounds_toArray, List.set_cons_zero, List.set_cons_succ]
            refine wpAnyH_ready (rs := [18]) (by kernel_rfl) (by simp) ?_
            refine AllReadyH.cons (o := ({ dst := some 23, op := Op.call { callee := Callee.value (Operand.func 72), args := #[Operand.tmp 7, Operand.tmp 22], argTypes := #[4, 4] }, type := 2, pos := "l07_stability.go:178", after := #[{ on := 2, ground := Ground.data }, { on := 17, ground := Ground.data }, { on := 16, ground := Ground.chain }], guard := none } : Oper)) rfl (fun K hK => ?_) ?_
            · go_simp
              (refine (CC.out _ _).mono ?_; rintro e wD ⟨rfl, rfl⟩)
              go_wp2_with fail
              refine hK.out _ _ ?_ (fun hHeld => ?_)
              · (try dsimp only)
                first | done | go_keep
              clear hK K
              try simp only [Act.put, List.setIfInBounds_toArray, List.set_cons_zero, List.set_cons_succ]
              refine wpAnyH_take (i := 19) (oi := ({ dst := some 4, op := Op.assign (Operand.tmp 23), type := 2, pos := "l07_stability.go:178", after := #[{ on := 18, ground := Ground.data }, { on := 18, ground := Ground.chain }, { on := 0, ground := Ground.phase }, { on := 1, ground := Ground.phase }, { on := 2, ground := Ground.phase }, { on := 3, ground := Ground.phase }, { on := 4, ground := Ground.phase }, { on := 5, ground := Ground.phase }, { on := 6, ground := Ground.phase }, { on := 7, ground := Ground.phase }, { on := 8, ground := Ground.phase }, { on := 9, ground := Ground.phase }, { on := 10, ground := Ground.phase }, { on := 11, ground := Ground.phase }, { on := 12, ground := Ground.phase }, { on := 13, ground := Ground.phase }, { on := 14, ground := Ground.phase }, { on := 15, ground := Ground.phase }, { on := 16, ground := Ground.phase }, { on := 17, ground := Ground.phase }, { on := 18, ground := Ground.phase }], guard := none } : Oper)) (v := ?_) rfl (by kernel_rfl) (by kernel_rfl) (by kernel_rfl) (fun _ _ _ h => h) (Or.inl ⟨by rfl, ?_⟩) (by assumption) ?_
              rotate_left
              · (intro w hSw; (try dsimp only at hSw); go_simp <;> with_reducible rfl)
              try simp only [Act.put, List.setIfInBounds_toArray, List.set_cons_zero, List.set_cons_succ]
              refine wpAnyH_done (by kernel_rfl) ?_ _
              go_wp2_with fail
              go_ret
              exact ⟨rfl, bt HB.out bB0⟩
            exact AllReadyH.nil
          exact AllReadyH.nil
        exact AllReadyH.nil
      exact AllReadyH.nil
    exact AllReadyH.nil
  exact AllReadyH.nil
theorem code_any (w : World) (v u : Value) (xs : List Lay) (us : List (Value × Bool)) (ri ru d t m : Int) (hv : LSl w v xs) (hl : xs.length ≤ 1048576) (hu : StS w u us) (hul : us.length ≤ 1048576) :
    Calls Tryd.prog 64 #[.agg #[v, .int .i64 ri, .int .i64 ru, .int .i64 d, .int .i64 t, .int .i64 m], u] w fun e w' => e = .returned (.int .i64 (Sb.cd (La.okP xs) (sdt ri ru d t && allS us))) ∧ Below w.heap.size w w' := by
  cases hs : sdt ri ru d t with
  | true => exact code_t w v u xs us ri ru d t m hv hl hu hul hs
  | false => exact code_f w v u xs us ri ru d t m hv hl hu hul hs
end Go.Proofs.YtaldmdammipfjaaDoor

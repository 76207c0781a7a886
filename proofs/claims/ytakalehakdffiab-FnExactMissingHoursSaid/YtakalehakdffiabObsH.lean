/-
  When an observation is odd, by the model and by the program (a closure over two limits). No condition of its own.
-/
import Derived.Test.YtakalehakdffiabObsG
namespace Go.Proofs.Ytakalehakdffiab
open Go.RowKit Go.Shelf
set_option linter.unusedVariables false
set_option maxRecDepth 100000

theorem quiet_more {P : Program} {f : FuncId} {args : Array Value} {w : World} {a n : Nat} {v : Value} (h : Calls P f args (w.drewN (a + n)) fun e w' => e = .returned v ∧ w.drewN (a + n) = w') :
    Calls P f args (w.drewN (a + n)) fun e w'' => e = .returned v ∧ ∃ m, w'' = w.drewN (a + m) := h.mono fun _ _ ⟨he, hm⟩ => ⟨he, n, hm.symm⟩
def Ob.lims (s d : Int) : Bool := Ar.inB 0 s 10000 && Ar.inB 0 d 10000
theorem l04Abs_any (n : Int) (w : World) (h1 : -1000000000000000000 ≤ n) (h2 : n ≤ 1000000000000000000) :
    Calls Try.prog 129 #[.int .i64 n] w fun e w' => e = .returned (.int .i64 (Ar.ab n)) ∧ w = w' := by
  have hr : Hid (max n (-n) = Ar.ab n) := Lib.hid (by unfold Ar.ab; split <;> omega)
  go_enter Try.func129, Try.ntmps129
  go_wp2_with (go_at_call 99; refine (l00Max_any _ _ _).mono ?_; rintro e w' ⟨rfl, rfl⟩)
  go_ret
  exact ⟨ret_int hr.out, rfl⟩
theorem distance_any (a b : Int) (w : World) (h1 : -1000000000000 ≤ a) (h2 : a ≤ 1000000000000) (h3 : -1000000000000 ≤ b) (h4 : b ≤ 1000000000000) :
    Calls Try.prog 86 #[.int .i64 a, .int .i64 b] w fun e w' => e = .returned (.int .i64 (Ar.ab (b - a))) ∧ w = w' := by
  go_enter Try.func86, Try.ntmps86
  go_wp2
  all_goals
    go_ret
    exact ⟨ret_int (by unfold Ar.ab; split <;> omega), rfl⟩
set_option maxHeartbeats 1600000 in
theorem l04Odd_any (x y : Obs) (b1 o1 b2 o2 : Nat) (s d : Int) (w : World) (hx : ObCells w b1 o1 x) (hy : ObCells w b2 o2 y) (fx : Ob.Fits x) (fy : Ob.Fits y) (hs1 : 0 ≤ s) (hs2 : s ≤ 10000) (hd1 : 0 ≤ d) (hd2 : d ≤ 10000) :
    Calls Try.prog 101 #[.pointer (some ⟨b1, o1, none⟩), .pointer (some ⟨b2, o2, none⟩), .int .i64 s, .int .i64 d] w fun e w' => e = .returned (.bool (Ob.odd s d x y)) ∧ ∃ q, w' = w.drewN q := by
  obtain ⟨c0, c1, c2, c3⟩ := hx
  obtain ⟨d0, d1, d2, d3⟩ := hy
  have x1 := fx.h1; have x2 := fx.h2; have x3 := fx.s1; have x4 := fx.s2; have x5 := fx.d1; have x6 := fx.d2
  have y1 := fy.h1; have y2 := fy.h2; have y3 := fy.s1; have y4 := fy.s2; have y5 := fy.d1; have y6 := fy.d2
  clear fx fy
  obtain ⟨p1, p2⟩ := Ar.mul_bd (a := y.ho - x.ho) (b := s) (m := 100000) (n := 10000) (by omega) (by omega) hs1 hs2
  obtain ⟨p3, p4⟩ := Ar.mul_bd (a := y.ho - x.ho) (b := d) (m := 100000) (n := 10000) (by omega) (by omega) hd1 hd2
  rw [Int.mul_comm _ s] at p1 p2
  rw [Int.mul_comm _ d] at p3 p4
  have n1 : IntKind.i64.wrap (y.ho - x.ho) = y.ho - x.ho := IntWalk.i64_in _ (by omega)
  have n2 : IntKind.i64.wrap (y.sn - x.sn) = y.sn - x.sn := IntWalk.i64_in _ (by omega)
  have n3 : IntKind.i64.wrap (y.dg - x.dg) = y.dg - x.dg := IntWalk.i64_in _ (by omega)
  have n4 : IntKind.i64.wrap (s * (y.ho - x.ho)) = s * (y.ho - x.ho) := IntWalk.i64_in _ (by omega)
  have n5 : IntKind.i64.wrap (d * (y.ho - x.ho)) = d * (y.ho - x.ho) := IntWalk.i64_in _ (by omega)
  have A1 := fun W => Lib.hid (l04Abs_any (y.sn - x.sn) W (by omega) (by omega))
  have A2 := fun W => Lib.hid (l04Abs_any (y.dg - x.dg) W (by omega) (by omega))
  by_cases t1 : s * (y.ho - x.ho) < Ar.ab (y.sn - x.sn)
  · have hr : Hid (Ob.odd s d x y = true) := Lib.hid (by unfold Ob.odd; rw [decide_eq_true t1]; rfl)
    go_enter Try.func101, Try.ntmps101
    go_wp2_with fail
    go_quiet (fail)
    go_wp2_with fail
    go_quiet ((go_at_call 129; exact quiet_more (A1 _).out))
    go_wp2
    go_ret
    exact ⟨ret_bool hr.out.symm, _, World.drewN_drewN _ _ _⟩
  · have hr : Hid (Ob.odd s d x y = decide (d * (y.ho - x.ho) < Ar.ab (y.dg - x.dg))) := Lib.hid (by unfold Ob.odd; rw [decide_eq_false t1]; rfl)
    go_enter Try.func101, Try.ntmps101
    go_wp2_with fail
    go_quiet (fail)
    go_wp2_with fail
    go_quiet ((first | (go_at_call_of 129 (Value.int IntKind.i64 (y.sn - x.sn)); exact quiet_more (A1 _).out) | (go_at_call 129; exact quiet_more (A2 _).out)))
    go_wp2
    go_ret
    exact ⟨ret_bool rfl, _, World.drewN_drewN _ _ _⟩
theorem l04Limits_any (s d : Int) (w : World) :
    Calls Try.prog 100 #[.int .i64 s, .int .i64 d] w fun e w' => e = .returned (.bool (Ob.lims s d)) ∧ w = w' := by
  cases h1 : Ar.inB 0 s 10000
  all_goals
    have hr : Hid (Ob.lims s d = (Ar.inB 0 s 10000 && Ar.inB 0 d 10000)) := Lib.hid rfl
    rw [h1] at hr
    go_enter Try.func100, Try.ntmps100
    go_wp2_with (go_at_call 64; refine (l00In_any _ _ _ _).mono ?_; rintro e w' ⟨rfl, rfl⟩)
    go_ret
    exact ⟨ret_bool (by rw [hr.out]; simp), rfl⟩
theorem areHourlyChanges_any (s d : Int) (w : World) :
    Calls Try.prog 81 #[.int .i64 s, .int .i64 d] w fun e w' => e = .returned (.bool (Ob.lims s d)) ∧ w = w' := by
  cases h1 : Ar.inB 0 s 10000
  all_goals
    have hr : Hid (Ob.lims s d = (Ar.inB 0 s 10000 && Ar.inB 0 d 10000)) := Lib.hid rfl
    rw [h1] at hr
    go_enter Try.func81, Try.ntmps81
    go_wp2_with (go_at_call 76; refine (within_any _ _ _ _).mono ?_; rintro e w' ⟨rfl, rfl⟩)
    go_ret
    exact ⟨ret_bool (by rw [hr.out]; simp), rfl⟩
theorem oddBeyond_any (s d : Int) (w : World) :
    Calls Try.prog 82 #[.int .i64 s, .int .i64 d] w fun e w' => e = .returned (.func (.func 121) #[] #[.pointer (some ⟨w.heap.size, 0, none⟩), .pointer (some ⟨w.heap.size + 1, 0, none⟩)]) ∧
      w' = (w.alloc (.cells #[.int .i64 s] 2)).alloc (.cells #[.int .i64 d] 2) := by
  have hmf : ∀ (fn : Fn) (first cap : Array Value) (w : World), (Instr.makeFunc fn first cap).run Try.prog w = .ok (.func fn first cap) w := fun _ _ _ _ => rfl
  go_enter Try.func82, Try.ntmps82
  go_wp2
  go_ret
  exact ⟨rfl, rfl⟩
set_option maxHeartbeats 3200000 in
theorem oddLit_any (x y : Obs) (g1 g2 : Nat) (s d : Int) (w : World) (e1 : w.cell? ⟨g1, 0, none⟩ = some (.int .i64 s)) (e2 : w.cell? ⟨g2, 0, none⟩ = some (.int .i64 d)) (fx : Ob.Fits x) (fy : Ob.Fits y) (hs1 : 0 ≤ s) (hs2 : s ≤ 10000) (hd1 : 0 ≤ d) (hd2 : d ≤ 10000) :
    Calls Try.prog 121 #[.agg #[.int .i64 x.ho, .int .i64 x.sn, .int .i64 x.dg, .int .i64 x.wi], .agg #[.int .i64 y.ho, .int .i64 y.sn, .int .i64 y.dg, .int .i64 y.wi], .pointer (some ⟨g1, 0, none⟩), .pointer (some ⟨g2, 0, none⟩)] w
      fun e w' => e = .returned (.bool (Ob.odd s d x y)) ∧ Below w.heap.size w w' := by
  have l1 := World.block_lt_of_cell? w _ e1
  have l2 := World.block_lt_of_cell? w _ e2
  have x1 := fx.h1; have x2 := fx.h2; have x3 := fx.s1; have x4 := fx.s2; have x5 := fx.d1; have x6 := fx.d2
  have y1 := fy.h1; have y2 := fy.h2; have y3 := fy.s1; have y4 := fy.s2; have y5 := fy.d1; have y6 := fy.d2
  clear fx fy
  obtain ⟨p1, p2⟩ := Ar.mul_bd (a := y.ho - x.ho) (b := s) (m := 100000) (n := 10000) (by omega) (by omega) hs1 hs2
  obtain ⟨p3, p4⟩ := Ar.mul_bd (a := y.ho - x.ho) (b := d) (m := 100000) (n := 10000) (by omega) (by omega) hd1 hd2
  rw [Int.mul_comm _ s] at p1 p2
  rw [Int.mul_comm _ d] at p3 p4
  have n4 : IntKind.i64.wrap (s * (y.ho - x.ho)) = s * (y.ho - x.ho) := IntWalk.i64_in _ (by omega)
  have n5 : IntKind.i64.wrap (d * (y.ho - x.ho)) = d * (y.ho - x.ho) := IntWalk.i64_in _ (by omega)
  have A1 := fun W => Lib.hid (distance_any x.sn y.sn W (by omega) (by omega) (by omega) (by omega))
  have A2 := fun W => Lib.hid (distance_any x.dg y.dg W (by omega) (by omega) (by omega) (by omega))
  have B := fun a b => Lib.hid (((Below.refl w.heap.size w).alloc (Nat.le_refl _) a).alloc (by simp) b)
  by_cases t1 : s * (y.ho - x.ho) < Ar.ab (y.sn - x.sn)
  · have hr : Hid (Ob.odd s d x y = true) := Lib.hid (by unfold Ob.odd; rw [decide_eq_true t1]; rfl)
    go_enter Try.func121, Try.ntmps121
    go_wp2_with fail
    go_quiet ((go_at_call 86; exact Calls.quiet_of_same ((A1 _).out.mono fun _ _ ⟨h, h'⟩ => ⟨h, h'.symm⟩)))
    go_wp2
    go_ret
    exact ⟨ret_bool hr.out.symm, below_drewN (B _ _).out _⟩
  · have hr : Hid (Ob.odd s d x y = decide (d * (y.ho - x.ho) < Ar.ab (y.dg - x.dg))) := Lib.hid (by unfold Ob.odd; rw [decide_eq_false t1]; rfl)
    go_enter Try.func121, Try.ntmps121
    go_wp2_with fail
    go_quiet ((first | (go_at_call_of 86 (Value.int IntKind.i64 x.sn); exact Calls.quiet_of_same ((A1 _).out.mono fun _ _ ⟨h, h'⟩ => ⟨h, h'.symm⟩)) | (go_at_call 86; exact Calls.quiet_of_same ((A2 _).out.mono fun _ _ ⟨h, h'⟩ => ⟨h, h'.symm⟩))))
    go_wp2
    go_ret
    exact ⟨ret_bool rfl, below_drewN (B _ _).out _⟩
end Go.Proofs.Ytakalehakdffiab

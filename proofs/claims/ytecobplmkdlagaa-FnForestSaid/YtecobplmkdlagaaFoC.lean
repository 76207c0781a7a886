/-
  A stand a year later, and without some trees: by the model and by the program. No condition of its own. (Written by wip/gen/genfoc.py.)
-/
import Derived.Test.YtecobplmkdlagaaFoB
import Derived.Deep.RegionWith
namespace Go.Proofs.Ytecobplmkdlagaa
open Go.RowKit Go.Shelf
set_option linter.unusedVariables false
set_option maxRecDepth 100000

theorem dR_at (a b c : Int) (h : Ar.dr a b = c) (hb : 0 < b) (hb2 : b ≤ 1000000000000) (h1 : -1000000000000 ≤ a) (h2 : a ≤ 1000000000000) : Ar.dR a b = c := by
  unfold Ar.dR; rw [if_neg (by omega), h]
theorem implDiv_at (a b c : Int) (w : World) (h : Ar.dR a b = c) :
    Calls Try.prog 88 #[.int .i64 a, .int .i64 b] w fun e w' => e = .returned (.int .i64 c) ∧ w = w' :=
  (implDivRound_any a b w).mono fun _ _ h' => ⟨by rw [h'.1, h], h'.2⟩
theorem specDiv_at (a b c : Int) (w : World) (h : Ar.dr a b = c) (h1 : -1000000000000 ≤ a) (h2 : a ≤ 1000000000000) (hb : 0 < b) (hb2 : b ≤ 1000000000000) :
    Calls Try.prog 85 #[.int .i64 a, .int .i64 b] w fun e w' => e = .returned (.int .i64 c) ∧ w = w' :=
  (l01Div_any a b w (by omega) (by omega) (by omega) (by omega) (by omega)).mono fun _ _ h' => ⟨by rw [h'.1, h], h'.2⟩
set_option maxHeartbeats 3200000 in
theorem grown_any (x : Std) (w : World) (hf : Fo.Fits x) :
    Calls Try.prog 68 #[.agg #[.string ⟨x.id.toArray⟩, .int .i64 x.tr, .int .i64 x.he, .int .i64 x.co, .int .i64 x.ga]] w fun e w' => e = .returned (.agg #[.string ⟨(Fo.yr x).id.toArray⟩, .int .i64 (Fo.yr x).tr, .int .i64 (Fo.yr x).he, .int .i64 (Fo.yr x).co, .int .i64 (Fo.yr x).ga]) ∧ Below w.heap.size w w' := by
  have h1 := hf.h1; have h2 := hf.h2; have c1 := hf.c1; have c2 := hf.c2; have g1 := hf.g1; have g2 := hf.g2
  obtain ⟨d1, d2⟩ := Fo.dr_small (a := 5000 - x.he) (b := 50) (by omega) (by omega)
  obtain ⟨d3, d4⟩ := Fo.dr_small (a := 1000 - x.co) (b := 40) (by omega) (by omega)
  obtain ⟨p1, hp1⟩ : ∃ p, IntKind.i64.wrap (5000 - x.he) = p := ⟨_, rfl⟩
  have ep1 : p1 = 5000 - x.he := by rw [← hp1]; exact IntWalk.i64_in _ ⟨by omega, by omega⟩
  obtain ⟨p2, hp2⟩ : ∃ p, IntKind.i64.wrap (1000 - x.co) = p := ⟨_, rfl⟩
  have ep2 : p2 = 1000 - x.co := by rw [← hp2]; exact IntWalk.i64_in _ ⟨by omega, by omega⟩
  obtain ⟨u, hu⟩ : ∃ u, Ar.dr (5000 - x.he) 50 = u := ⟨_, rfl⟩
  obtain ⟨v, hv⟩ : ∃ u, Ar.dr (1000 - x.co) 40 = u := ⟨_, rfl⟩
  obtain ⟨q1, hq1⟩ : ∃ q, IntKind.i64.wrap (x.he + u) = q := ⟨_, rfl⟩
  have eq1 : q1 = x.he + u := by rw [← hq1]; exact IntWalk.i64_in _ ⟨by omega, by omega⟩
  obtain ⟨q2, hq2⟩ : ∃ q, IntKind.i64.wrap (x.co + v) = q := ⟨_, rfl⟩
  have eq2 : q2 = x.co + v := by rw [← hq2]; exact IntWalk.i64_in _ ⟨by omega, by omega⟩
  have D1 := Lib.hid (fun W => implDiv_at p1 50 u W (dR_at _ _ _ (by rw [ep1]; exact hu) (by omega) (by omega) (by omega) (by omega)))
  have D2 := Lib.hid (fun W => implDiv_at p2 40 v W (dR_at _ _ _ (by rw [ep2]; exact hv) (by omega) (by omega) (by omega) (by omega)))
  have e : Fo.yr x = ⟨x.id, x.tr, q1, q2, max 0 (x.ga - 1)⟩ := by unfold Fo.yr; rw [hu, hv, eq1, eq2]
  rw [e]
  clear hf e hu hv ep1 ep2 eq1 eq2 d1 d2 d3 d4
  go_enter Try.func68, Try.ntmps68
  go_wp2
  go_region_with (refine (D1.out _).mono ?_; rintro e w' ⟨rfl, rfl⟩)
  all_goals (
    go_wp2
    go_region_with (refine (D2.out _).mono ?_; rintro e w' ⟨rfl, rfl⟩))
  all_goals (
    go_wp2
    all_goals exact bodyPost_ret (v := .agg #[.string ⟨x.id.toArray⟩, .int .i64 x.tr, .int .i64 q1, .int .i64 q2, .int .i64 (max 0 (x.ga - 1))]) (by simp [results, Try.results68, go_sem] <;> omega) rfl ⟨rfl, by first | exact bt (((Below.refl _ _).alloc (Nat.le_refl _) _).alloc (by simp) _) (below_drewW _ 2) | exact below_drewN (((Below.refl _ _).alloc (Nat.le_refl _) _).alloc (by simp) _) _⟩)
set_option maxHeartbeats 3200000 in
theorem l10Year_any (x : Std) (w : World) (hf : Fo.Fits x) :
    Calls Try.prog 66 #[.agg #[.string ⟨x.id.toArray⟩, .int .i64 x.tr, .int .i64 x.he, .int .i64 x.co, .int .i64 x.ga]] w fun e w' => e = .returned (.agg #[.string ⟨(Fo.yr x).id.toArray⟩, .int .i64 (Fo.yr x).tr, .int .i64 (Fo.yr x).he, .int .i64 (Fo.yr x).co, .int .i64 (Fo.yr x).ga]) ∧ Below w.heap.size w w' := by
  have h1 := hf.h1; have h2 := hf.h2; have c1 := hf.c1; have c2 := hf.c2; have g1 := hf.g1; have g2 := hf.g2
  obtain ⟨d1, d2⟩ := Fo.dr_small (a := 5000 - x.he) (b := 50) (by omega) (by omega)
  obtain ⟨d3, d4⟩ := Fo.dr_small (a := 1000 - x.co) (b := 40) (by omega) (by omega)
  obtain ⟨p1, hp1⟩ : ∃ p, IntKind.i64.wrap (5000 - x.he) = p := ⟨_, rfl⟩
  have ep1 : p1 = 5000 - x.he := by rw [← hp1]; exact IntWalk.i64_in _ ⟨by omega, by omega⟩
  obtain ⟨p2, hp2⟩ : ∃ p, IntKind.i64.wrap (1000 - x.co) = p := ⟨_, rfl⟩
  have ep2 : p2 = 1000 - x.co := by rw [← hp2]; exact IntWalk.i64_in _ ⟨by omega, by omega⟩
  obtain ⟨u, hu⟩ : ∃ u, Ar.dr (5000 - x.he) 50 = u := ⟨_, rfl⟩
  obtain ⟨v, hv⟩ : ∃ u, Ar.dr (1000 - x.co) 40 = u := ⟨_, rfl⟩
  obtain ⟨q1, hq1⟩ : ∃ q, IntKind.i64.wrap (x.he + u) = q := ⟨_, rfl⟩
  have eq1 : q1 = x.he + u := by rw [← hq1]; exact IntWalk.i64_in _ ⟨by omega, by omega⟩
  obtain ⟨q2, hq2⟩ : ∃ q, IntKind.i64.wrap (x.co + v) = q := ⟨_, rfl⟩
  have eq2 : q2 = x.co + v := by rw [← hq2]; exact IntWalk.i64_in _ ⟨by omega, by omega⟩
  have D1 := Lib.hid (fun W => specDiv_at p1 50 u W (by rw [ep1]; exact hu) (by omega) (by omega) (by omega) (by omega))
  have D2 := Lib.hid (fun W => specDiv_at p2 40 v W (by rw [ep2]; exact hv) (by omega) (by omega) (by omega) (by omega))
  have M := Lib.hid (fun W => mx_any 0 (x.ga - 1) _ W rfl)
  have e : Fo.yr x = ⟨x.id, x.tr, q1, q2, max 0 (x.ga - 1)⟩ := by unfold Fo.yr; rw [hu, hv, eq1, eq2]
  rw [e]
  clear hf e hu hv ep1 ep2 eq1 eq2 d1 d2 d3 d4
  go_enter Try.func66, Try.ntmps66
  go_wp2
  go_region_with (refine (D1.out _).mono ?_; rintro e w' ⟨rfl, rfl⟩)
  all_goals (
    go_wp2
    go_region_with (refine (D2.out _).mono ?_; rintro e w' ⟨rfl, rfl⟩))
  all_goals (
    go_wp2_with fail
    refine (M.out _).mono ?_
    rintro e w' ⟨rfl, rfl⟩
    go_wp2_with fail
    all_goals exact bodyPost_ret (v := .agg #[.string ⟨x.id.toArray⟩, .int .i64 x.tr, .int .i64 q1, .int .i64 q2, .int .i64 (max 0 (x.ga - 1))]) (by simp [results, Try.results66, go_sem] <;> omega) rfl ⟨rfl, by first | exact bt (((Below.refl _ _).alloc (Nat.le_refl _) _).alloc (by simp) _) (below_drewW _ 2) | exact below_drewN (((Below.refl _ _).alloc (Nat.le_refl _) _).alloc (by simp) _) _⟩)
set_option maxHeartbeats 3200000 in
theorem felled_any (x : Std) (t : Int) (w : World) (hf : Fo.Fits x) (ht0 : 0 ≤ t) (ht1 : t ≤ x.tr) :
    Calls Try.prog 70 #[.agg #[.string ⟨x.id.toArray⟩, .int .i64 x.tr, .int .i64 x.he, .int .i64 x.co, .int .i64 x.ga], .int .i64 t] w fun e w' => e = .returned (.agg #[.string ⟨(Fo.fe x t).id.toArray⟩, .int .i64 (Fo.fe x t).tr, .int .i64 (Fo.fe x t).he, .int .i64 (Fo.fe x t).co, .int .i64 (Fo.fe x t).ga]) ∧ Below w.heap.size w w' := by
  have t1 := hf.t1; have t2 := hf.t2; have c1 := hf.c1; have c2 := hf.c2
  obtain ⟨d1, d2⟩ := Fo.fc_bd hf ht0 ht1
  obtain ⟨n1, n2⟩ := Ar.mul_bd (a := x.co) (b := t) (m := 1000) (n := 2000) (by omega) c2 ht0 (by omega)
  obtain ⟨m, hm⟩ : ∃ p, IntKind.i64.wrap (x.co * t) = p := ⟨_, rfl⟩
  have em : m = x.co * t := by rw [← hm]; exact IntWalk.i64_in _ ⟨by omega, by omega⟩
  obtain ⟨v, hv⟩ : ∃ u, Fo.fc x t = u := ⟨_, rfl⟩
  obtain ⟨q, hq⟩ : ∃ q, IntKind.i64.wrap (x.co - v) = q := ⟨_, rfl⟩
  have eq : q = x.co - v := by rw [← hq]; exact IntWalk.i64_in _ ⟨by omega, by omega⟩
  have hv0 := hv
  have hv : Ar.dR (x.co * t) x.tr = v := by
    rw [← hv0]; unfold Fo.fc Ar.dR
    by_cases h0 : x.tr = 0
    · rw [if_pos (Or.inl h0), if_pos h0]
    · rw [if_neg (by omega), if_neg h0]
  have D := Lib.hid (fun W => implDiv_at m x.tr v W (by rw [em]; exact hv))
  have e : Fo.fe x t = ⟨x.id, x.tr - t, x.he, q, x.ga⟩ := by rw [eq, ← hv0]; rfl
  rw [e]
  clear hf e hv em eq d1 d2 n1 n2 hv0
  go_enter Try.func70, Try.ntmps70
  go_wp2
  go_region_with (refine (D.out _).mono ?_; rintro e w' ⟨rfl, rfl⟩)
  all_goals (
    go_wp2
    all_goals exact bodyPost_ret (v := .agg #[.string ⟨x.id.toArray⟩, .int .i64 (x.tr - t), .int .i64 x.he, .int .i64 q, .int .i64 x.ga]) (by simp [results, Try.results70, go_sem] <;> omega) rfl ⟨rfl, by first | exact bt (((Below.refl _ _).alloc (Nat.le_refl _) _).alloc (by simp) _) (below_drewW _ 1) | exact below_drewN (((Below.refl _ _).alloc (Nat.le_refl _) _).alloc (by simp) _) _⟩)
set_option maxHeartbeats 3200000 in
theorem l10Fell_any (x : Std) (t : Int) (w : World) (hf : Fo.Fits x) (ht0 : 0 ≤ t) (ht1 : t ≤ x.tr) :
    Calls Try.prog 69 #[.agg #[.string ⟨x.id.toArray⟩, .int .i64 x.tr, .int .i64 x.he, .int .i64 x.co, .int .i64 x.ga], .int .i64 t] w fun e w' => e = .returned (.agg #[.string ⟨(Fo.fe x t).id.toArray⟩, .int .i64 (Fo.fe x t).tr, .int .i64 (Fo.fe x t).he, .int .i64 (Fo.fe x t).co, .int .i64 (Fo.fe x t).ga]) ∧ Below w.heap.size w w' := by
  by_cases h0 : t = 0
  · subst h0
    rw [Fo.fe_zero hf]
    clear hf ht1
    go_enter Try.func69, Try.ntmps69
    go_wp2
    exact bodyPost_ret (v := .agg #[.string ⟨x.id.toArray⟩, .int .i64 x.tr, .int .i64 x.he, .int .i64 x.co, .int .i64 x.ga]) (by simp [results, Try.results69, go_sem]) rfl ⟨rfl, ((Below.refl _ _).alloc (Nat.le_refl _) _).alloc (by simp) _⟩
  have htp : 0 < t := by omega
  clear h0
  have t1 := hf.t1; have t2 := hf.t2; have c1 := hf.c1; have c2 := hf.c2
  obtain ⟨d1, d2⟩ := Fo.fc_bd hf ht0 ht1
  obtain ⟨n1, n2⟩ := Ar.mul_bd (a := x.co) (b := t) (m := 1000) (n := 2000) (by omega) c2 ht0 (by omega)
  obtain ⟨m, hm⟩ : ∃ p, IntKind.i64.wrap (x.co * t) = p := ⟨_, rfl⟩
  have em : m = x.co * t := by rw [← hm]; exact IntWalk.i64_in _ ⟨by omega, by omega⟩
  obtain ⟨v, hv⟩ : ∃ u, Fo.fc x t = u := ⟨_, rfl⟩
  obtain ⟨q, hq⟩ : ∃ q, IntKind.i64.wrap (x.co - v) = q := ⟨_, rfl⟩
  have eq : q = x.co - v := by rw [← hq]; exact IntWalk.i64_in _ ⟨by omega, by omega⟩
  have D := Lib.hid (fun W => specDiv_at m x.tr v W (by rw [em]; rw [← hv]; unfold Fo.fc; rw [if_neg (by omega)]) (by omega) (by omega) (by omega) (by omega))
  have e : Fo.fe x t = ⟨x.id, x.tr - t, x.he, q, x.ga⟩ := by rw [eq, ← hv]; rfl
  rw [e]
  clear hf e hv em eq d1 d2 n1 n2
  go_enter Try.func69, Try.ntmps69
  go_wp2
  go_region_with (refine (D.out _).mono ?_; rintro e w' ⟨rfl, rfl⟩)
  all_goals (
    go_wp2
    all_goals exact bodyPost_ret (v := .agg #[.string ⟨x.id.toArray⟩, .int .i64 (x.tr - t), .int .i64 x.he, .int .i64 q, .int .i64 x.ga]) (by simp [results, Try.results69, go_sem] <;> omega) rfl ⟨rfl, by first | exact bt (((Below.refl _ _).alloc (Nat.le_refl _) _).alloc (by simp) _) (below_drewW _ 1) | exact below_drewN (((Below.refl _ _).alloc (Nat.le_refl _) _).alloc (by simp) _) _⟩)
end Go.Proofs.Ytecobplmkdlagaa

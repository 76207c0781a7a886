/-
  How much a stand protects, by the model and by the program. The condition: no name is longer than 2^20.
-/
import Derived.Test.YtaldmdammipfjaaFoA
import Derived.Deep.RegionHeld3
namespace Go.Proofs.Ytaldmdammipfjaa
open Go.RowKit Go.Shelf
set_option linter.unusedVariables false
set_option maxRecDepth 100000

theorem l10Snow_any (n : Int) (w : World) :
    Calls Try.prog 67 #[.int .i64 n] w fun e w' => e = .returned (.bool (Ar.inB 0 n 2000)) ∧ w = w' := by
  go_enter Try.func67, Try.ntmps67
  go_wp2_with (go_at_call 75; refine (l00In_any _ _ _ _).mono ?_; rintro e w' ⟨rfl, rfl⟩)
  go_ret
  exact ⟨rfl, rfl⟩
theorem div500_any (t : Int) (w : World) (h : 0 ≤ t) (h2 : t ≤ 2000) :
    Calls Try.prog 93 #[.int .i64 (t * 1000), .int .i64 500] w fun e w' => e = .returned (.int .i64 (2 * t)) ∧ w = w' :=
  (l01Div_any (t * 1000) 500 w (by omega) (by omega) (by omega) (by omega) (by omega)).mono fun _ _ ⟨h1, h2⟩ => ⟨by rw [h1, Fo.dr500 h], h2⟩
set_option maxHeartbeats 1600000 in
theorem l10Protection_any (x : Std) (b o : Nat) (s : Int) (w : World) (h : SnCells w b o x) (hf : Fo.Fits x) (h1 : 0 ≤ s) (h2 : s ≤ 2000) :
    Calls Try.prog 68 #[.pointer (some ⟨b, o, none⟩), .int .i64 s] w fun e w' => e = .returned (.int .i64 (Fo.pr x s)) ∧ ∃ q, w' = w.drewN q := by
  obtain ⟨c0, c1, c2, c3, c4⟩ := h
  have t1 := hf.t1; have t2 := hf.t2; have e1 := hf.h1; have e2 := hf.h2; have k1 := hf.c1; have k2 := hf.c2; have g1 := hf.g1; have g2 := hf.g2
  by_cases hs : x.he < 2 * s
  · have hr := Lib.hid (Fo.pr_0 hs)
    clear hf
    go_enter Try.func68, Try.ntmps68
    go_wp2
    go_ret
    exact ⟨ret_int hr.out.symm, 0, rfl⟩
  · have n0 : 0 ≤ min 1000 (min (2 * x.tr) x.co) := by omega
    have n1 : min 1000 (min (2 * x.tr) x.co) ≤ 1000 := by omega
    obtain ⟨g, hg⟩ : ∃ g, max 0 (x.ga - 20) = g := ⟨_, rfl⟩
    have g3 : 0 ≤ g := by omega
    have g4 : g ≤ 80 := by omega
    have hr : Hid (∀ n, min 1000 (min (2 * x.tr) x.co) = n → max 0 (n - 10 * g) = Fo.pr x s) := Lib.hid (fun n hn => by rw [Fo.pr_1 hs]; omega)
    have D := Lib.hid (fun W => div500_any x.tr W t1 t2)
    have M1 := Lib.hid (fun a b W => mn_any a b _ W rfl)
    have M3 := Lib.hid (fun W => mx_any 0 (x.ga - 20) g W hg)
    have hw : IntKind.i64.wrap (x.tr * 1000) = x.tr * 1000 := IntWalk.i64_in _ ⟨by omega, by omega⟩
    clear hg hf
    go_enter Try.func68, Try.ntmps68
    go_wp2
    go_quiet ((first | (go_at_call 93; exact Calls.quiet_of_same ((D.out _).mono fun _ _ ⟨h, h'⟩ => ⟨h, h'.symm⟩)) | (go_at_call 92; exact Calls.quiet_of_same ((M1.out _ _ _).mono fun _ _ ⟨h, h'⟩ => ⟨h, h'.symm⟩))))
    clear hw
    have M4 := Lib.hid (fun W => mx_any 0 (min 1000 (min (2 * x.tr) x.co) - 10 * g) _ W (hr.out _ rfl))
    clear hr
    generalize min 1000 (min (2 * x.tr) x.co) = n at *
    go_wp2_with fail
    refine (M3.out _).mono ?_
    rintro e w' ⟨rfl, rfl⟩
    go_wp2_with fail
    refine (M4.out _).mono ?_
    rintro e w' ⟨rfl, rfl⟩
    go_wp2_with fail
    go_ret
    exact ⟨rfl, _, rfl⟩
theorem divR500_any (t : Int) (w : World) (h : 0 ≤ t) (h2 : t ≤ 2000) :
    Calls Try.prog 97 #[.int .i64 (1000 * t), .int .i64 500] w fun e w' => e = .returned (.int .i64 (2 * t)) ∧ w = w' :=
  (implDivRound_any (1000 * t) 500 w).mono fun _ _ ⟨h1, h2⟩ => ⟨by rw [h1]; unfold Ar.dR; rw [if_neg (by omega), Int.mul_comm, Fo.dr500 h], h2⟩
set_option maxHeartbeats 1600000 in
theorem protection_any (x : Std) (s : Int) (w : World) (hf : Fo.Fits x) (h1 : 0 ≤ s) (h2 : s ≤ 2000) :
    Calls Try.prog 72 #[.agg #[.string ⟨x.id.toArray⟩, .int .i64 x.tr, .int .i64 x.he, .int .i64 x.co, .int .i64 x.ga], .int .i64 s] w fun e w' => e = .returned (.int .i64 (Fo.pr x s)) ∧ Below w.heap.size w w' := by
  have t1 := hf.t1; have t2 := hf.t2; have e1 := hf.h1; have e2 := hf.h2; have k1 := hf.c1; have k2 := hf.c2; have g1 := hf.g1; have g2 := hf.g2
  by_cases hs : x.he < 2 * s
  · have hr := Lib.hid (Fo.pr_0 hs)
    clear hf
    go_enter Try.func72, Try.ntmps72
    go_wp2
    go_ret
    exact ⟨ret_int hr.out.symm, (Below.refl _ _).alloc (Nat.le_refl _) _⟩
  · have D := Lib.hid (fun W => divR500_any x.tr W t1 t2)
    have hr := Lib.hid (Fo.pr_1 (x := x) hs)
    have hw : IntKind.i64.wrap (1000 * x.tr) = 1000 * x.tr := IntWalk.i64_in _ ⟨by omega, by omega⟩
    clear hf
    go_enter Try.func72, Try.ntmps72
    go_wp2
    go_quiet ((go_at_call 97; exact Calls.quiet_of_same ((D.out _).mono fun _ _ ⟨h, h'⟩ => ⟨h, h'.symm⟩)))
    clear hw
    go_wp2
    all_goals
      go_ret
      exact ⟨ret_int (by rw [hr.out]; omega), below_drewN ((Below.refl _ _).alloc (Nat.le_refl _) _) _⟩
/-! ### ProtectionOf -/
namespace Fo
def poV (x : Std) (s : Int) : Int := Cd.vl (ok1 x) (Ar.inB 0 s 2000) (pr x s)
def poC (x : Std) (s : Int) : Int := Cd.cd (ok1 x) (Ar.inB 0 s 2000) 0
end Fo
theorem inB_of {l x h : Int} (hq : Ar.inB l x h = true) : l ≤ x ∧ x ≤ h := Fo.inB_iff.1 hq
/-! ### the program: codes and demands -/
set_option maxHeartbeats 800000 in
theorem demandStated_any (s l : Int) (w : World) : Calls Try.prog 71 #[.agg #[.int .i64 s, .int .i64 l]] w fun e w' => e = .returned (.bool (Fo.lim s l)) ∧ Below w.heap.size w w' := by
  have C1 := Lib.hid (fun W => within_any s 0 2000 W)
  have C2 := Lib.hid (fun W => isShare_any2 l W)
  unfold Fo.lim
  generalize Ar.inB 0 l 1000 = q at *
  generalize Ar.inB 0 s 2000 = p at *
  cases p
  · go_enter Try.func71, Try.ntmps71
    go_wp2_with fail
    refine (C1.out _).mono ?_
    rintro e w' ⟨rfl, rfl⟩
    go_wp2_with fail
    go_ret
    exact ⟨rfl, (Below.refl _ _).alloc (Nat.le_refl _) _⟩
  · go_enter Try.func71, Try.ntmps71
    go_wp2_with fail
    refine (C1.out _).mono ?_
    rintro e w' ⟨rfl, rfl⟩
    go_wp2_with fail
    refine (C2.out _).mono ?_
    rintro e w' ⟨rfl, rfl⟩
    go_wp2_with fail
    go_ret
    exact ⟨ret_bool (by simp), (Below.refl _ _).alloc (Nat.le_refl _) _⟩
set_option maxHeartbeats 800000 in
theorem standsCode_any (w : World) (v : Value) (xs : List Std) (t : Bool) (hv : SnSl w v xs) (hl : xs.length ≤ 1048576) (hi : Ids xs) :
    Calls Try.prog 70 #[v, .bool t] w fun e w' => e = .returned (.int .i64 (Cd.cd (Fo.okS xs) t 0)) ∧ Below w.heap.size w w' := by
  have I := Lib.hid (implValidStands_any w v xs hv hl hi)
  have S := Lib.hid (fun W => statedCd_any (Fo.okS xs) t W)
  clear hv hi
  generalize Fo.okS xs = q at *
  go_enter Try.func70, Try.ntmps70
  go_wp2_with fail
  refine I.out.mono ?_
  rintro e w1 ⟨rfl, b1⟩
  have B1 := Lib.hid b1
  clear b1
  go_wp2_with fail
  refine (S.out _).mono ?_
  rintro e w' ⟨rfl, rfl⟩
  go_wp2_with fail
  go_ret
  exact ⟨rfl, B1.out⟩
end Go.Proofs.Ytaldmdammipfjaa

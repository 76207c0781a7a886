/-
  How much a stand protects, by the model and by the program. The condition: no name is longer than 2^20.
-/
import Derived.Test.YtecobplmkdlagaaFoA
import Derived.Deep.RegionHeld3
namespace Go.Proofs.Ytecobplmkdlagaa
open Go.RowKit Go.Shelf
set_option linter.unusedVariables false
set_option maxRecDepth 100000

theorem l10Snow_any (n : Int) (w : World) :
    Calls Try.prog 51 #[.int .i64 n] w fun e w' => e = .returned (.bool (Ar.inB 0 n 2000)) ∧ w = w' := by
  go_enter Try.func51, Try.ntmps51
  go_wp2_with (go_at_call 65; refine (l00In_any _ _ _ _).mono ?_; rintro e w' ⟨rfl, rfl⟩)
  go_ret
  exact ⟨rfl, rfl⟩
theorem l10Least_any (n : Int) (w : World) :
    Calls Try.prog 56 #[.int .i64 n] w fun e w' => e = .returned (.bool (Ar.inB 0 n 1000)) ∧ w = w' := by
  go_enter Try.func56, Try.ntmps56
  go_wp2_with (go_at_call 65; refine (l00In_any _ _ _ _).mono ?_; rintro e w' ⟨rfl, rfl⟩)
  go_ret
  exact ⟨rfl, rfl⟩
theorem div500_any (t : Int) (w : World) (h : 0 ≤ t) (h2 : t ≤ 2000) :
    Calls Try.prog 85 #[.int .i64 (t * 1000), .int .i64 500] w fun e w' => e = .returned (.int .i64 (2 * t)) ∧ w = w' :=
  (l01Div_any (t * 1000) 500 w (by omega) (by omega) (by omega) (by omega) (by omega)).mono fun _ _ ⟨h1, h2⟩ => ⟨by rw [h1, Fo.dr500 h], h2⟩
set_option maxHeartbeats 1600000 in
theorem l10Protection_any (x : Std) (b o : Nat) (s : Int) (w : World) (h : SnCells w b o x) (hf : Fo.Fits x) (h1 : 0 ≤ s) (h2 : s ≤ 2000) :
    Calls Try.prog 52 #[.pointer (some ⟨b, o, none⟩), .int .i64 s] w fun e w' => e = .returned (.int .i64 (Fo.pr x s)) ∧ ∃ q, w' = w.drewN q := by
  obtain ⟨c0, c1, c2, c3, c4⟩ := h
  have t1 := hf.t1; have t2 := hf.t2; have e1 := hf.h1; have e2 := hf.h2; have k1 := hf.c1; have k2 := hf.c2; have g1 := hf.g1; have g2 := hf.g2
  by_cases hs : x.he < 2 * s
  · have hr := Lib.hid (Fo.pr_0 hs)
    clear hf
    go_enter Try.func52, Try.ntmps52
    go_wp2
    go_ret
    exact ⟨ret_int hr.out.symm, 0, rfl⟩
  · have n0 : 0 ≤ min 1000 (min (2 * x.tr) x.co) := by omega
    have n1 : min 1000 (min (2 * x.tr) x.co) ≤ 1000 := by omega
    obtain ⟨g, hg⟩ : ∃ g, max 0 (x.ga - 20) = g := ⟨_, rfl⟩
    have g3 : 0 ≤ g := by omega
    have g4 : g ≤ 80 := by omega
    have hr : Hid (∀ n, min 1000 (min (2 * x.tr) x.co) = n → max 0 (n - 10 * g) = Fo.pr x s) := Lib.hid (fun n hn => by rw [Fo.pr_1 hs]; omega)
    have D := Lib.hid (fun W => div500_any x.tr W t1 t2)
    have M1 := Lib.hid (fun a b W => mn_any a b _ W rfl)
    have M3 := Lib.hid (fun W => mx_any 0 (x.ga - 20) g W hg)
    have hw : IntKind.i64.wrap (x.tr * 1000) = x.tr * 1000 := IntWalk.i64_in _ ⟨by omega, by omega⟩
    clear hg hf
    go_enter Try.func52, Try.ntmps52
    go_wp2
    go_quiet ((first | (go_at_call 85; exact Calls.quiet_of_same ((D.out _).mono fun _ _ ⟨h, h'⟩ => ⟨h, h'.symm⟩)) | (go_at_call 84; exact Calls.quiet_of_same ((M1.out _ _ _).mono fun _ _ ⟨h, h'⟩ => ⟨h, h'.symm⟩))))
    clear hw
    have M4 := Lib.hid (fun W => mx_any 0 (min 1000 (min (2 * x.tr) x.co) - 10 * g) _ W (hr.out _ rfl))
    clear hr
    generalize min 1000 (min (2 * x.tr) x.co) = n at *
    go_wp2_with fail
    refine (M3.out _).mono ?_
    rintro e w' ⟨rfl, rfl⟩
    go_wp2_with fail
    refine (M4.out _).mono ?_
    rintro e w' ⟨rfl, rfl⟩
    go_wp2_with fail
    go_ret
    exact ⟨rfl, _, rfl⟩
theorem divR500_any (t : Int) (w : World) (h : 0 ≤ t) (h2 : t ≤ 2000) :
    Calls Try.prog 88 #[.int .i64 (1000 * t), .int .i64 500] w fun e w' => e = .returned (.int .i64 (2 * t)) ∧ w = w' :=
  (implDivRound_any (1000 * t) 500 w).mono fun _ _ ⟨h1, h2⟩ => ⟨by rw [h1]; unfold Ar.dR; rw [if_neg (by omega), Int.mul_comm, Fo.dr500 h], h2⟩
set_option maxHeartbeats 1600000 in
theorem protection_any (x : Std) (s : Int) (w : World) (hf : Fo.Fits x) (h1 : 0 ≤ s) (h2 : s ≤ 2000) :
    Calls Try.prog 55 #[.agg #[.string ⟨x.id.toArray⟩, .int .i64 x.tr, .int .i64 x.he, .int .i64 x.co, .int .i64 x.ga], .int .i64 s] w fun e w' => e = .returned (.int .i64 (Fo.pr x s)) ∧ Below w.heap.size w w' := by
  have t1 := hf.t1; have t2 := hf.t2; have e1 := hf.h1; have e2 := hf.h2; have k1 := hf.c1; have k2 := hf.c2; have g1 := hf.g1; have g2 := hf.g2
  by_cases hs : x.he < 2 * s
  · have hr := Lib.hid (Fo.pr_0 hs)
    clear hf
    go_enter Try.func55, Try.ntmps55
    go_wp2
    go_ret
    exact ⟨ret_int hr.out.symm, (Below.refl _ _).alloc (Nat.le_refl _) _⟩
  · have D := Lib.hid (fun W => divR500_any x.tr W t1 t2)
    have hr := Lib.hid (Fo.pr_1 (x := x) hs)
    have hw : IntKind.i64.wrap (1000 * x.tr) = 1000 * x.tr := IntWalk.i64_in _ ⟨by omega, by omega⟩
    clear hf
    go_enter Try.func55, Try.ntmps55
    go_wp2
    go_quiet ((go_at_call 88; exact Calls.quiet_of_same ((D.out _).mono fun _ _ ⟨h, h'⟩ => ⟨h, h'.symm⟩)))
    clear hw
    go_wp2
    all_goals
      go_ret
      exact ⟨ret_int (by rw [hr.out]; omega), below_drewN ((Below.refl _ _).alloc (Nat.le_refl _) _) _⟩
/-! ### ProtectionOf -/
namespace Fo
def poV (x : Std) (s : Int) : Int := Cd.vl (ok1 x) (Ar.inB 0 s 2000) (pr x s)
def poC (x : Std) (s : Int) : Int := Cd.cd (ok1 x) (Ar.inB 0 s 2000) 0
end Fo
theorem inB_of {l x h : Int} (hq : Ar.inB l x h = true) : l ≤ x ∧ x ≤ h := Fo.inB_iff.1 hq
set_option maxHeartbeats 1600000 in
theorem specProtectionOf_any (x : Std) (s : Int) (w : World) (hx : x.id.length ≤ 1048576) :
    Calls Try.prog 19 #[.agg #[.string ⟨x.id.toArray⟩, .int .i64 x.tr, .int .i64 x.he, .int .i64 x.co, .int .i64 x.ga], .int .i64 s] w fun e w' => e = .returned (.tuple #[.int .i64 (Fo.poV x s), .int .i64 (Fo.poC x s)]) ∧ Below w.heap.size w w' := by
  have O := Lib.hid (l10One_any x w.heap.size 0 _ (boxStd_cells w x 34) hx)
  have S := Lib.hid (fun W => l10Snow_any s W)
  have B := Lib.hid (boxStd_below w x 34)
  unfold Fo.poV Fo.poC
  unfold boxStd at O B
  cases hq : Fo.ok1 x with
  | false =>
    rw [hq] at O
    rw [Cd.vl_f, Cd.cd_f]
    clear hq hx
    go_enter Try.func19, Try.ntmps19
    go_wp2_with fail
    refine O.out.mono ?_
    rintro e w' ⟨rfl, rfl⟩
    go_wp2_with fail
    go_ret2
    exact ⟨rfl, B.out⟩
  | true =>
    rw [hq] at O
    have hf := Lib.hid (Fo.ok1_fits hq)
    clear hq hx
    cases hs : Ar.inB 0 s 2000 with
    | false =>
      rw [hs] at S
      rw [Cd.vl_tf, Cd.cd_tf]
      clear hs
      go_enter Try.func19, Try.ntmps19
      go_wp2_with fail
      refine O.out.mono ?_
      rintro e w' ⟨rfl, rfl⟩
      go_wp2_with fail
      refine (S.out _).mono ?_
      rintro e w' ⟨rfl, rfl⟩
      go_wp2_with fail
      go_ret2
      exact ⟨rfl, B.out⟩
    | true =>
      obtain ⟨h1, h2⟩ := inB_of hs
      rw [hs] at S
      rw [Cd.vl_t, Cd.cd_t]
      clear hs
      have P := Lib.hid (l10Protection_any x w.heap.size 0 s _ (boxStd_cells w x 34) hf.out h1 h2)
      unfold boxStd at P
      clear h1 h2
      go_enter Try.func19, Try.ntmps19
      go_wp2_with fail
      refine O.out.mono ?_
      rintro e w' ⟨rfl, rfl⟩
      go_wp2_with fail
      refine (S.out _).mono ?_
      rintro e w' ⟨rfl, rfl⟩
      go_wp2_with fail
      refine P.out.mono ?_
      rintro e w' ⟨rfl, q, rfl⟩
      go_wp2_with fail
      go_ret2
      exact ⟨rfl, below_drewN B.out _⟩
/-! ### the program: codes and demands -/
set_option maxHeartbeats 800000 in
theorem demandStated_any (s l : Int) (w : World) : Calls Try.prog 54 #[.agg #[.int .i64 s, .int .i64 l]] w fun e w' => e = .returned (.bool (Fo.lim s l)) ∧ Below w.heap.size w w' := by
  have C1 := Lib.hid (fun W => within_any s 0 2000 W)
  have C2 := Lib.hid (fun W => isShare_any2 l W)
  unfold Fo.lim
  generalize Ar.inB 0 l 1000 = q at *
  generalize Ar.inB 0 s 2000 = p at *
  cases p
  · go_enter Try.func54, Try.ntmps54
    go_wp2_with fail
    refine (C1.out _).mono ?_
    rintro e w' ⟨rfl, rfl⟩
    go_wp2_with fail
    go_ret
    exact ⟨rfl, (Below.refl _ _).alloc (Nat.le_refl _) _⟩
  · go_enter Try.func54, Try.ntmps54
    go_wp2_with fail
    refine (C1.out _).mono ?_
    rintro e w' ⟨rfl, rfl⟩
    go_wp2_with fail
    refine (C2.out _).mono ?_
    rintro e w' ⟨rfl, rfl⟩
    go_wp2_with fail
    go_ret
    exact ⟨ret_bool (by simp), (Below.refl _ _).alloc (Nat.le_refl _) _⟩
set_option maxHeartbeats 800000 in
theorem standCode_any (x : Std) (t : Bool) (w : World) (hx : x.id.length ≤ 1048576) :
    Calls Try.prog 53 #[.agg #[.string ⟨x.id.toArray⟩, .int .i64 x.tr, .int .i64 x.he, .int .i64 x.co, .int .i64 x.ga], .bool t] w fun e w' => e = .returned (.int .i64 (Cd.cd (Fo.ok1 x) t 0)) ∧ Below w.heap.size w w' := by
  have I := Lib.hid (fun W => isWrongStd_any x W hx)
  have S := Lib.hid (fun W => statedCd_any (Fo.ok1 x) t W)
  have B := Lib.hid (boxStd_below w x 34)
  unfold boxStd at B
  clear hx
  generalize Fo.ok1 x = q at *
  go_enter Try.func53, Try.ntmps53
  go_wp2_with fail
  refine (I.out _).mono ?_
  rintro e w1 ⟨rfl, b1⟩
  have B1 := Lib.hid (bt B.out b1)
  clear b1
  go_wp2_with fail
  refine (S.out _).mono ?_
  rintro e w' ⟨rfl, rfl⟩
  go_wp2_with fail
  go_ret
  exact ⟨rfl, B1.out⟩
set_option maxHeartbeats 800000 in
theorem standsCode_any (w : World) (v : Value) (xs : List Std) (t : Bool) (hv : SnSl w v xs) (hl : xs.length ≤ 1048576) (hi : Ids xs) :
    Calls Try.prog 57 #[v, .bool t] w fun e w' => e = .returned (.int .i64 (Cd.cd (Fo.okS xs) t 0)) ∧ Below w.heap.size w w' := by
  have I := Lib.hid (implValidStands_any w v xs hv hl hi)
  have S := Lib.hid (fun W => statedCd_any (Fo.okS xs) t W)
  clear hv hi
  generalize Fo.okS xs = q at *
  go_enter Try.func57, Try.ntmps57
  go_wp2_with fail
  refine I.out.mono ?_
  rintro e w1 ⟨rfl, b1⟩
  have B1 := Lib.hid b1
  clear b1
  go_wp2_with fail
  refine (S.out _).mono ?_
  rintro e w' ⟨rfl, rfl⟩
  go_wp2_with fail
  go_ret
  exact ⟨rfl, B1.out⟩
/-- the world with a demand and a stand in new blocks -/
def boxDS (w : World) (s l : Int) (x : Std) (t u : TypeId) : World := (w.alloc (.cells #[.int .i64 s, .int .i64 l] t)).alloc (.cells #[.string ⟨x.id.toArray⟩, .int .i64 x.tr, .int .i64 x.he, .int .i64 x.co, .int .i64 x.ga] u)
theorem boxDS_below (w : World) (s l : Int) (x : Std) (t u : TypeId) : Below w.heap.size w (boxDS w s l x t u) := ((Below.refl _ _).alloc (Nat.le_refl _) _).alloc (by simp) _
theorem boxDS_kept {w W : World} {s l : Int} {x : Std} {t u : TypeId} (h : Below (boxDS w s l x t u).heap.size (boxDS w s l x t u) W) :
    W.cell? ⟨w.heap.size, 0, none⟩ = some (.int .i64 s) ∧ W.cell? ⟨w.heap.size, 1, none⟩ = some (.int .i64 l) ∧ SnCells W (w.heap.size + 1) 0 x := by
  have h1 : Whole (boxDS w s l x t u) w.heap.size t #[.int .i64 s, .int .i64 l] := (Whole.new w t _).alloc _
  have h2 : SnCells W (w.alloc (.cells #[.int .i64 s, .int .i64 l] t)).heap.size 0 x := boxStd_kept (w := w.alloc (.cells #[.int .i64 s, .int .i64 l] t)) (t := u) h
  have e : (w.alloc (.cells #[.int .i64 s, .int .i64 l] t)).heap.size = w.heap.size + 1 := by simp
  rw [e] at h2
  exact ⟨(h1.all h).at_ 0, (h1.all h).at_ 1, h2⟩
set_option maxHeartbeats 1600000 in
theorem isMetBy_any (s l : Int) (x : Std) (w : World) (hf : Fo.Fits x) (h1 : 0 ≤ s) (h2 : s ≤ 2000) :
    Calls Try.prog 59 #[.agg #[.int .i64 s, .int .i64 l], .agg #[.string ⟨x.id.toArray⟩, .int .i64 x.tr, .int .i64 x.he, .int .i64 x.co, .int .i64 x.ga]] w fun e w' => e = .returned (.bool (Fo.met s l x)) ∧ Below w.heap.size w w' := by
  have P := Lib.hid (fun W => protection_any x s W hf h1 h2)
  have B := Lib.hid (boxDS_below w s l x 69 34)
  have K := Lib.hid (fun W (h : Below (boxDS w s l x 69 34).heap.size (boxDS w s l x 69 34) W) => boxDS_kept h)
  clear hf h1 h2
  unfold Fo.met
  generalize Fo.pr x s = p at *
  unfold boxDS at B K
  go_enter Try.func59, Try.ntmps59
  go_wp2_with fail
  go_region_held3 (fun w' => w'.cell? ⟨w.heap.size, 0, none⟩ = some (.int .i64 s) ∧ w'.cell? ⟨w.heap.size, 1, none⟩ = some (.int .i64 l) ∧ w'.cell? ⟨w.heap.size + 1, 0, none⟩ = some (.string ⟨x.id.toArray⟩) ∧ w'.cell? ⟨w.heap.size + 1, 1, none⟩ = some (.int .i64 x.tr) ∧ w'.cell? ⟨w.heap.size + 1, 2, none⟩ = some (.int .i64 x.he) ∧ w'.cell? ⟨w.heap.size + 1, 3, none⟩ = some (.int .i64 x.co) ∧ w'.cell? ⟨w.heap.size + 1, 4, none⟩ = some (.int .i64 x.ga)) (go_keep)
    (first | (go_at_call 55; refine (P.out _).mono ?_; rintro e wB ⟨rfl, bB⟩; have bB0 := bt (below_drewW _ 1) bB; obtain ⟨z0, z1, zz⟩ := K.out wB bB0; obtain ⟨y0, y1, y2, y3, y4⟩ := zz.zero))
  all_goals (
    go_wp2_with fail
    go_ret
    exact ⟨rfl, bt B.out bB0⟩)
set_option maxHeartbeats 1600000 in
theorem implProtectionOf_any (x : Std) (s : Int) (w : World) (hx : x.id.length ≤ 1048576) :
    Calls Try.prog 21 #[.agg #[.string ⟨x.id.toArray⟩, .int .i64 x.tr, .int .i64 x.he, .int .i64 x.co, .int .i64 x.ga], .int .i64 s] w fun e w' => e = .returned (.tuple #[.int .i64 (Fo.poV x s), .int .i64 (Fo.poC x s)]) ∧ Below w.heap.size w w' := by
  have D := Lib.hid (fun W => demandStated_any s 0 W)
  have C := Lib.hid (fun W => standCode_any x (Ar.inB 0 s 2000) W hx)
  have B := Lib.hid (boxStd_below w x 34)
  have K := Lib.hid (fun W (hb : Below (boxStd w x 34).heap.size (boxStd w x 34) W) => (boxStd_kept hb).zero)
  have F : Hid (Fo.ok1 x = true → Fo.Fits x) := Lib.hid Fo.ok1_fits
  unfold Fo.poV Fo.poC
  rw [Fo.lim_0] at D
  clear hx
  generalize Fo.ok1 x = q at *
  cases hs : Ar.inB 0 s 2000 with
  | false =>
    rw [hs] at C D
    have hc : Hid ((Cd.cd q false 0 != 0) = true) := Lib.hid (by cases q <;> rfl)
    have hv : Hid (Cd.vl q false (Fo.pr x s) = 0) := Lib.hid (by cases q <;> rfl)
    rw [hv.out]
    generalize Cd.cd q false 0 = c at *
    have hc := hc.out
    clear hs hv F
    unfold boxStd at B K
    go_enter Try.func21, Try.ntmps21
    go_wp2_with fail
    go_region_held3 (fun w' => w'.cell? ⟨w.heap.size, 0, none⟩ = some (.string ⟨x.id.toArray⟩) ∧ w'.cell? ⟨w.heap.size, 1, none⟩ = some (.int .i64 x.tr) ∧ w'.cell? ⟨w.heap.size, 2, none⟩ = some (.int .i64 x.he) ∧ w'.cell? ⟨w.heap.size, 3, none⟩ = some (.int .i64 x.co) ∧ w'.cell? ⟨w.heap.size, 4, none⟩ = some (.int .i64 x.ga)) (go_keep)
      (first
        | (go_at_call 54; refine (D.out _).mono ?_; rintro e wA ⟨rfl, bA⟩; have bA0 := bt (below_drewW _ 1) bA; obtain ⟨y0, y1, y2, y3, y4⟩ := K.out wA bA0)
        | (go_at_call 53; refine (C.out _).mono ?_; rintro e wB ⟨rfl, bB⟩; have bB0 := bt bA0 bB; obtain ⟨z0, z1, z2, z3, z4⟩ := K.out wB bB0))
    all_goals (
      go_wp2_with fail
      go_ret2
      exact ⟨rfl, bt B.out bB0⟩)
  | true =>
    have hb := inB_of hs
    have hb1 := hb.1
    have hb2 := hb.2
    rw [hs] at C D
    clear hs hb
    cases q with
    | false =>
      rw [Cd.vl_f, Cd.cd_f]
      simp only [Cd.cd_f] at C
      clear F hb1 hb2
      unfold boxStd at B K
      go_enter Try.func21, Try.ntmps21
      go_wp2_with fail
      go_region_held3 (fun w' => w'.cell? ⟨w.heap.size, 0, none⟩ = some (.string ⟨x.id.toArray⟩) ∧ w'.cell? ⟨w.heap.size, 1, none⟩ = some (.int .i64 x.tr) ∧ w'.cell? ⟨w.heap.size, 2, none⟩ = some (.int .i64 x.he) ∧ w'.cell? ⟨w.heap.size, 3, none⟩ = some (.int .i64 x.co) ∧ w'.cell? ⟨w.heap.size, 4, none⟩ = some (.int .i64 x.ga)) (go_keep)
        (first
          | (go_at_call 54; refine (D.out _).mono ?_; rintro e wA ⟨rfl, bA⟩; have bA0 := bt (below_drewW _ 1) bA; obtain ⟨y0, y1, y2, y3, y4⟩ := K.out wA bA0)
          | (go_at_call 53; refine (C.out _).mono ?_; rintro e wB ⟨rfl, bB⟩; have bB0 := bt bA0 bB; obtain ⟨z0, z1, z2, z3, z4⟩ := K.out wB bB0))
      all_goals (
        go_wp2_with fail
        go_ret2
        exact ⟨rfl, bt B.out bB0⟩)
    | true =>
      have P := Lib.hid (fun W => protection_any x s W (F.out rfl) hb1 hb2)
      rw [Cd.vl_t, Cd.cd_t]
      simp only [Cd.cd_t] at C
      clear F hb1 hb2
      unfold boxStd at B K
      go_enter Try.func21, Try.ntmps21
      go_wp2_with fail
      go_region_held3 (fun w' => w'.cell? ⟨w.heap.size, 0, none⟩ = some (.string ⟨x.id.toArray⟩) ∧ w'.cell? ⟨w.heap.size, 1, none⟩ = some (.int .i64 x.tr) ∧ w'.cell? ⟨w.heap.size, 2, none⟩ = some (.int .i64 x.he) ∧ w'.cell? ⟨w.heap.size, 3, none⟩ = some (.int .i64 x.co) ∧ w'.cell? ⟨w.heap.size, 4, none⟩ = some (.int .i64 x.ga)) (go_keep)
        (first
          | (go_at_call 54; refine (D.out _).mono ?_; rintro e wA ⟨rfl, bA⟩; have bA0 := bt (below_drewW _ 1) bA; obtain ⟨y0, y1, y2, y3, y4⟩ := K.out wA bA0)
          | (go_at_call 53; refine (C.out _).mono ?_; rintro e wB ⟨rfl, bB⟩; have bB0 := bt bA0 bB; obtain ⟨z0, z1, z2, z3, z4⟩ := K.out wB bB0))
      all_goals (
        have B2 := Lib.hid (bt B.out bB0)
        clear bB0 bB bA bA0 y0 y1 y2 y3 y4
        go_wp2_with fail
        refine (P.out _).mono ?_
        rintro e wC ⟨rfl, bC⟩
        have B3 := Lib.hid (bt B2.out bC)
        clear bC
        go_wp2_with fail
        go_ret2
        exact ⟨rfl, B3.out⟩)
end Go.Proofs.Ytecobplmkdlagaa

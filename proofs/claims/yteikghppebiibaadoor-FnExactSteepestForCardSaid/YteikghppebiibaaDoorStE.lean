/-
  The questions of chapter 7 by the model: StrengthBounds StressAt IndexBounds WeakestLayer IsStable MoreLoad SteepestFor SlabOf. No condition of its own.
-/
import Derived.Test.YteikghppebiibaaDoorStD
namespace Go.Proofs.YteikghppebiibaaDoor
open Go.RowKit Go.Shelf
set_option linter.unusedVariables false
set_option maxRecDepth 100000

set_option maxHeartbeats 1600000 in
theorem specStrengthBounds_any (w : World) (x : Lay) (d : Int) :
    Calls Tryd.prog 11 #[.agg #[.int .i64 x.fo, .int .i64 x.ic, .int .i64 x.wa, .int .i64 x.de, .int .i64 x.dg, .int .i64 x.ha, .int .i64 x.ag], .int .i64 d] w fun e w' => e = .returned (.tuple #[.int .i64 (Sb.sg x d).1, .int .i64 (Sb.sg x d).2.1, .int .i64 (Sb.sg x d).2.2]) ∧ Below w.heap.size w w' := by
  have C1 := Lib.hid (l03One_any x w.heap.size 0 _ (boxed_cells w x 26))
  have C2 := Lib.hid (fun W => l07Doubt_any d W)
  cases h1 : La.okL x with
  | false =>
    have hr := Lib.hid (Sb.sg_1 (d := d) h1)
    rw [h1] at C1
    clear h1
    go_enter Tryd.func11, Tryd.ntmps11
    go_wp2_with fail
    refine C1.out.mono ?_
    rintro e w1 ⟨rfl, rfl⟩
    go_wp2_with fail
    go_ret3
    exact ⟨ret_p3 hr.out, boxed_below w x 26⟩
  | true =>
    have hfit := (La.okL_iff x).1 h1
    rw [h1] at C1
    cases h2 : Ar.inB 0 d 1000 with
    | false =>
      have hr := Lib.hid (Sb.sg_2 h1 h2)
      rw [h2] at C2
      clear h1 h2 hfit
      go_enter Tryd.func11, Tryd.ntmps11
      go_wp2_with fail
      refine C1.out.mono ?_
      rintro e w1 ⟨rfl, rfl⟩
      go_wp2_with fail
      refine (C2.out _).mono ?_
      rintro e w1 ⟨rfl, rfl⟩
      go_wp2_with fail
      go_ret3
      exact ⟨ret_p3 hr.out, boxed_below w x 26⟩
    | true =>
      have hr := Lib.hid (Sb.sg_0 h1 h2)
      obtain ⟨d0, d1⟩ := La.inB_iff.1 h2
      have C3 := Lib.hid (l07Strength_any x d w.heap.size 0 _ (boxed_cells w x 26) hfit d0 d1)
      rw [h2] at C2
      clear h1 h2 hfit
      go_enter Tryd.func11, Tryd.ntmps11
      go_wp2_with fail
      refine C1.out.mono ?_
      rintro e w1 ⟨rfl, rfl⟩
      go_wp2_with fail
      refine (C2.out _).mono ?_
      rintro e w1 ⟨rfl, rfl⟩
      go_wp2_with fail
      refine C3.out.mono ?_
      rintro e w1 ⟨rfl, b1⟩
      have B1 := Lib.hid (bt (boxed_below w x 26) b1)
      clear b1
      go_wp2_with fail
      go_ret3
      exact ⟨ret_p3 hr.out, B1.out⟩
theorem sd_t {ri ru d : Int} (h : Sb.slo ri ru = true) (h' : Ar.inB 0 d 1000 = true) : Sb.sd ri ru d = true := by unfold Sb.sd; rw [h, h']; rfl
theorem sd_f1 {ri ru d : Int} (h : Sb.slo ri ru = false) : Sb.sd ri ru d = false := by unfold Sb.sd; rw [h]; rfl
theorem sd_f2 {ri ru d : Int} (h' : Ar.inB 0 d 1000 = false) : Sb.sd ri ru d = false := by unfold Sb.sd; rw [h']; simp
set_option maxHeartbeats 1600000 in
theorem specIndexBounds_any (w : World) (v : Value) (xs : List Lay) (k ri ru d : Int) (hv : LAs w v xs) (hl : xs.length ≤ 1048576) :
    Calls Tryd.prog 15 #[v, .int .i64 k, .int .i64 ri, .int .i64 ru, .int .i64 d] w fun e w' => e = .returned (.tuple #[.int .i64 (Sb.ib xs k ri ru d).1, .int .i64 (Sb.ib xs k ri ru d).2.1, .int .i64 (Sb.ib xs k ri ru d).2.2]) ∧ Below w.heap.size w w' := by
  have HV := Lib.hid hv
  have C1 := Lib.hid (l03Ask_any w v xs k hv.sl hl)
  have C2 := Lib.hid (fun W => l07Slope_any ri ru W)
  have C3 := Lib.hid (fun W => l07Doubt_any d W)
  obtain ⟨B, b, cap, rfl, ho⟩ := hv
  clear ho
  cases h1 : La.okP xs with
  | false =>
    have hr := Lib.hid (Sb.ib_1 (k := k) (ri := ri) (ru := ru) (d := d) h1)
    rw [ask_1 h1] at C1
    clear h1
    go_enter Tryd.func15, Tryd.ntmps15
    go_wp2_with fail
    refine C1.out.mono ?_
    rintro e w1 ⟨rfl, rfl⟩
    go_wp2_with fail
    go_ret3
    exact ⟨ret_p3 hr.out, Below.refl _ _⟩
  | true =>
    cases h2 : Ar.inB 0 k (xs.length - 1) with
    | false =>
      have hr := Lib.hid (Sb.ib_2 (ri := ri) (ru := ru) (d := d) h1 (Or.inl h2))
      rw [ask_2 h1 h2] at C1
      clear h1 h2
      go_enter Tryd.func15, Tryd.ntmps15
      go_wp2_with fail
      refine C1.out.mono ?_
      rintro e w1 ⟨rfl, rfl⟩
      go_wp2_with fail
      go_ret3
      exact ⟨ret_p3 hr.out, Below.refl _ _⟩
    | true =>
      rw [ask_0 h1 h2] at C1
      cases h3 : Sb.slo ri ru with
      | false =>
        have hr := Lib.hid (Sb.ib_2 (k := k) (d := d) h1 (Or.inr (sd_f1 h3)))
        rw [h3] at C2
        clear h1 h2 h3
        go_enter Tryd.func15, Tryd.ntmps15
        go_wp2_with fail
        refine C1.out.mono ?_
        rintro e w1 ⟨rfl, rfl⟩
        go_wp2_with fail
        refine (C2.out _).mono ?_
        rintro e w1 ⟨rfl, rfl⟩
        go_wp2_with fail
        go_ret3
        exact ⟨ret_p3 hr.out, Below.refl _ _⟩
      | true =>
        cases h4 : Ar.inB 0 d 1000 with
        | false =>
          have hr := Lib.hid (Sb.ib_2 (k := k) (ri := ri) (ru := ru) h1 (Or.inr (sd_f2 h4)))
          rw [h3] at C2
          rw [h4] at C3
          clear h1 h2 h3 h4
          go_enter Tryd.func15, Tryd.ntmps15
          go_wp2_with fail
          refine C1.out.mono ?_
          rintro e w1 ⟨rfl, rfl⟩
          go_wp2_with fail
          refine (C2.out _).mono ?_
          rintro e w1 ⟨rfl, rfl⟩
          go_wp2_with fail
          refine (C3.out _).mono ?_
          rintro e w1 ⟨rfl, rfl⟩
          go_wp2_with fail
          go_ret3
          exact ⟨ret_p3 hr.out, Below.refl _ _⟩
        | true =>
          obtain ⟨j, rfl, hj⟩ := nat_of_in h2
          have hr := Lib.hid (Sb.ib_0 h1 hj h2 (sd_t h3 h4))
          have C4 := Lib.hid (l07Index_any w _ xs j 0 ri ru d HV.out hj (Sb.fine h1 (sd_t h3 h4)) (by omega) (by omega))
          rw [h3] at C2
          rw [h4] at C3
          clear h1 h2 h3 h4
          go_enter Tryd.func15, Tryd.ntmps15
          go_wp2_with fail
          refine C1.out.mono ?_
          rintro e w1 ⟨rfl, rfl⟩
          go_wp2_with fail
          refine (C2.out _).mono ?_
          rintro e w1 ⟨rfl, rfl⟩
          go_wp2_with fail
          refine (C3.out _).mono ?_
          rintro e w1 ⟨rfl, rfl⟩
          go_wp2_with fail
          refine C4.out.mono ?_
          rintro e w1 ⟨rfl, b1⟩
          have B1 := Lib.hid b1
          clear b1
          go_wp2_with fail
          go_ret3
          exact ⟨ret_p3 hr.out, B1.out⟩
theorem cd_f (b : Bool) : Sb.cd false b = 1 := rfl
theorem cd_tf : Sb.cd true false = 2 := rfl
theorem cd_tt : Sb.cd true true = 0 := rfl
set_option maxHeartbeats 1600000 in
theorem specWeakestLayer_any (w : World) (v : Value) (xs : List Lay) (ri ru d : Int) (hv : LAs w v xs) (hl : xs.length ≤ 1048576) :
    Calls Tryd.prog 19 #[v, .int .i64 ri, .int .i64 ru, .int .i64 d] w fun e w' => e = .returned (.tuple #[.int .i64 (Sb.wl xs ri ru d).1, .int .i64 (Sb.wl xs ri ru d).2.1, .int .i64 (Sb.wl xs ri ru d).2.2]) ∧ Below w.heap.size w w' := by
  have HV := Lib.hid hv
  have C1 := Lib.hid (l07Ask_any w v xs ri ru d hv.sl hl)
  obtain ⟨B, b, cap, rfl, ho⟩ := hv
  clear ho
  cases h1 : La.okP xs with
  | false =>
    have hr := Lib.hid (Sb.wl_1 (ri := ri) (ru := ru) (d := d) h1)
    rw [h1, cd_f] at C1
    clear h1
    go_enter Tryd.func19, Tryd.ntmps19
    go_wp2_with fail
    refine C1.out.mono ?_
    rintro e w1 ⟨rfl, rfl⟩
    go_wp2_with fail
    go_ret3
    exact ⟨ret_p3 hr.out, Below.refl _ _⟩
  | true =>
    cases h2 : Sb.sd ri ru d with
    | false =>
      have hr := Lib.hid (Sb.wl_2 h1 h2)
      rw [h1, h2, cd_tf] at C1
      clear h1 h2
      go_enter Tryd.func19, Tryd.ntmps19
      go_wp2_with fail
      refine C1.out.mono ?_
      rintro e w1 ⟨rfl, rfl⟩
      go_wp2_with fail
      go_ret3
      exact ⟨ret_p3 hr.out, Below.refl _ _⟩
    | true =>
      have C2 := Lib.hid (l07Weakest_any w _ xs 0 ri ru d HV.out (Sb.fine h1 h2) (by omega) (by omega))
      rw [h1, h2, cd_tt] at C1
      by_cases h3 : xs = []
      · have hn := (Sb.wkB_neg (zs := Sb.ixs 0 ri ru d xs)).2 (Sb.ixs_nil.2 h3)
        have hr : Hid (Sb.wl xs ri ru d = (0, 0, 3)) := Lib.hid (by subst h3; exact Sb.wl_3 h2)
        clear h1 h2 h3
        generalize Sb.wkB (Sb.ixs 0 ri ru d xs) = kk at *
        generalize Sb.wkL (Sb.ixs 0 ri ru d xs) = ll at *
        go_enter Tryd.func19, Tryd.ntmps19
        go_wp2_with fail
        refine C1.out.mono ?_
        rintro e w1 ⟨rfl, rfl⟩
        go_wp2_with fail
        refine C2.out.mono ?_
        rintro e w1 ⟨rfl, b1⟩
        have B1 := Lib.hid b1
        clear b1
        go_wp2_with fail
        go_ret3
        exact ⟨ret_p3 hr.out, B1.out⟩
      · have hn : ¬ Sb.wkB (Sb.ixs 0 ri ru d xs) < 0 := fun h => h3 (Sb.ixs_nil.1 (Sb.wkB_neg.1 h))
        have hr := Lib.hid (Sb.wl_0 h1 h2 h3)
        clear h1 h2 h3
        generalize Sb.wkB (Sb.ixs 0 ri ru d xs) = kk at *
        generalize Sb.wkL (Sb.ixs 0 ri ru d xs) = ll at *
        go_enter Tryd.func19, Tryd.ntmps19
        go_wp2_with fail
        refine C1.out.mono ?_
        rintro e w1 ⟨rfl, rfl⟩
        go_wp2_with fail
        refine C2.out.mono ?_
        rintro e w1 ⟨rfl, b1⟩
        have B1 := Lib.hid b1
        clear b1
        go_wp2_with fail
        go_ret3
        exact ⟨ret_p3 hr.out, B1.out⟩
set_option maxHeartbeats 1600000 in
theorem specIsStable_any (w : World) (v : Value) (xs : List Lay) (ri ru d t : Int) (hv : LAs w v xs) (hl : xs.length ≤ 1048576) :
    Calls Tryd.prog 21 #[v, .int .i64 ri, .int .i64 ru, .int .i64 d, .int .i64 t] w fun e w' => e = .returned (.bool (Sb.iss xs ri ru d t)) ∧ Below w.heap.size w w' := by
  have HV := Lib.hid hv
  have C1 := Lib.hid (l07Ask_any w v xs ri ru d hv.sl hl)
  have C2 := Lib.hid (fun W => l07Limit_any t W)
  rw [show Ar.inB 0 t 1000000 = Sb.lim t from rfl] at C2
  obtain ⟨B, b, cap, rfl, ho⟩ := hv
  clear ho
  unfold Sb.iss
  cases h1 : La.okP xs with
  | false =>
    rw [h1, cd_f] at C1
    clear h1
    go_enter Tryd.func21, Tryd.ntmps21
    go_wp2_with fail
    refine C1.out.mono ?_
    rintro e w1 ⟨rfl, rfl⟩
    go_wp2_with fail
    go_ret
    exact ⟨rfl, Below.refl _ _⟩
  | true =>
    cases h2 : Sb.sd ri ru d with
    | false =>
      rw [h1, h2, cd_tf] at C1
      clear h1 h2
      go_enter Tryd.func21, Tryd.ntmps21
      go_wp2_with fail
      refine C1.out.mono ?_
      rintro e w1 ⟨rfl, rfl⟩
      go_wp2_with fail
      go_ret
      exact ⟨rfl, Below.refl _ _⟩
    | true =>
      have C3 := Lib.hid (l07Stable_any w _ xs 0 ri ru d t HV.out (Sb.fine h1 h2) (by omega) (by omega))
      rw [h1, h2, cd_tt] at C1
      clear h1 h2
      generalize Sb.stb 0 ri ru d t xs = q at *
      cases h3 : Sb.lim t with
      | false =>
        rw [h3] at C2
        clear h3
        go_enter Tryd.func21, Tryd.ntmps21
        go_wp2_with fail
        refine C1.out.mono ?_
        rintro e w1 ⟨rfl, rfl⟩
        go_wp2_with fail
        refine (C2.out _).mono ?_
        rintro e w1 ⟨rfl, rfl⟩
        go_wp2_with fail
        go_ret
        exact ⟨rfl, Below.refl _ _⟩
      | true =>
        rw [h3] at C2
        clear h3
        go_enter Tryd.func21, Tryd.ntmps21
        go_wp2_with fail
        refine C1.out.mono ?_
        rintro e w1 ⟨rfl, rfl⟩
        go_wp2_with fail
        refine (C2.out _).mono ?_
        rintro e w1 ⟨rfl, rfl⟩
        go_wp2_with fail
        refine C3.out.mono ?_
        rintro e w1 ⟨rfl, b1⟩
        have B1 := Lib.hid b1
        clear b1
        go_wp2_with fail
        go_ret
        exact ⟨ret_bool (by simp), B1.out⟩
set_option maxHeartbeats 3200000 in
theorem specMoreLoad_any (w : World) (v : Value) (xs : List Lay) (ri ru d t : Int) (hv : LAs w v xs) (hl : xs.length ≤ 1048576) :
    Calls Tryd.prog 23 #[v, .int .i64 ri, .int .i64 ru, .int .i64 d, .int .i64 t] w fun e w' => e = .returned (.tuple #[.int .i64 (Sb.ml xs ri ru d t).1, .int .i64 (Sb.ml xs ri ru d t).2]) ∧ Below w.heap.size w w' := by
  have HV := Lib.hid hv
  have C1 := Lib.hid (l07Ask_any w v xs ri ru d hv.sl hl)
  have C2 := Lib.hid (fun W => l07Limit_any t W)
  rw [show Ar.inB 0 t 1000000 = Sb.lim t from rfl] at C2
  obtain ⟨B, b, cap, rfl, ho⟩ := hv
  clear ho
  cases h1 : La.okP xs with
  | false =>
    have hr := Lib.hid (Sb.ml_1 (ri := ri) (ru := ru) (d := d) (t := t) h1)
    rw [h1, cd_f] at C1
    clear h1
    go_enter Tryd.func23, Tryd.ntmps23
    go_wp2_with fail
    refine C1.out.mono ?_
    rintro e w1 ⟨rfl, rfl⟩
    go_wp2_with fail
    go_ret2
    exact ⟨ret_p2 hr.out, Below.refl _ _⟩
  | true =>
    cases h2 : Sb.sd ri ru d with
    | false =>
      have hr := Lib.hid (Sb.ml_2 (t := t) h1 (Or.inl h2))
      rw [h1, h2, cd_tf] at C1
      clear h1 h2
      go_enter Tryd.func23, Tryd.ntmps23
      go_wp2_with fail
      refine C1.out.mono ?_
      rintro e w1 ⟨rfl, rfl⟩
      go_wp2_with fail
      go_ret2
      exact ⟨ret_p2 hr.out, Below.refl _ _⟩
    | true =>
      have hfine := Sb.fine h1 h2
      have CS := Lib.hid (fun W m (h : Below w.heap.size w W) (m0 : 0 ≤ m) (m1 : m ≤ 1000000) => l07Stable_any W _ xs m ri ru d t (HV.out.all h) hfine m0 m1)
      rw [h1, h2, cd_tt] at C1
      cases h3 : Sb.lim t with
      | false =>
        have hr := Lib.hid (Sb.ml_2 (ri := ri) (ru := ru) (d := d) h1 (Or.inr h3))
        rw [h3] at C2
        clear h1 h2 h3 hfine
        go_enter Tryd.func23, Tryd.ntmps23
        go_wp2_with fail
        refine C1.out.mono ?_
        rintro e w1 ⟨rfl, rfl⟩
        go_wp2_with fail
        refine (C2.out _).mono ?_
        rintro e w1 ⟨rfl, rfl⟩
        go_wp2_with fail
        go_ret2
        exact ⟨ret_p2 hr.out, Below.refl _ _⟩
      | true =>
        rw [h3] at C2
        have D0 := Lib.hid (CS.out w 0 (Below.refl _ _) (by omega) (by omega))
        cases h4 : Sb.stb 0 ri ru d t xs with
        | false =>
          have hr := Lib.hid (Sb.ml_state h1 h2 h3 h4)
          rw [h4] at D0
          clear h1 h2 h3 h4 hfine
          go_enter Tryd.func23, Tryd.ntmps23
          go_wp2_with fail
          refine C1.out.mono ?_
          rintro e w1 ⟨rfl, rfl⟩
          go_wp2_with fail
          refine (C2.out _).mono ?_
          rintro e w1 ⟨rfl, rfl⟩
          go_wp2_with fail
          refine D0.out.mono ?_
          rintro e w1 ⟨rfl, b1⟩
          have B1 := Lib.hid b1
          clear b1
          go_wp2_with fail
          go_ret2
          exact ⟨ret_p2 hr.out, B1.out⟩
        | true =>
          rw [h4] at D0
          have D1 := Lib.hid (fun W (h : Below w.heap.size w W) => CS.out W 1000000 h (by omega) (by omega))
          cases h5 : Sb.stb 1000000 ri ru d t xs with
          | true =>
            have hr := Lib.hid (Sb.ml_none h1 h2 h3 h5)
            rw [h5] at D1
            clear h1 h2 h3 h4 h5 hfine
            go_enter Tryd.func23, Tryd.ntmps23
            go_wp2_with fail
            refine C1.out.mono ?_
            rintro e w1 ⟨rfl, rfl⟩
            go_wp2_with fail
            refine (C2.out _).mono ?_
            rintro e w1 ⟨rfl, rfl⟩
            go_wp2_with fail
            refine D0.out.mono ?_
            rintro e w1 ⟨rfl, b1⟩
            have B1 := Lib.hid b1
            clear b1
            go_wp2_with fail
            refine (D1.out _ B1.out).mono ?_
            rintro e w2 ⟨rfl, b2⟩
            have B2 := Lib.hid (bt B1.out b2)
            clear b2
            go_wp2_with fail
            go_ret2
            exact ⟨ret_p2 hr.out, B2.out⟩
          | false =>
            have hfound := Lib.hid (fun (k : Nat) k1 k2 hl hk => Sb.ml_found (k := k) h1 h2 h3 k1 k2 hl hk)
            have H4 := Lib.hid h4
            have H5 := Lib.hid h5
            have HM := Lib.hid (fun (a b : Nat) (h : a ≤ b) (h' : (!Sb.stb a ri ru d t xs) = true) => Sb.fails_mono hfine h h')
            rw [h5] at D1
            clear h1 h2 h3 h4 h5 hfine
            go_enter Tryd.func23, Tryd.ntmps23
            go_wp2_with fail
            refine C1.out.mono ?_
            rintro e w1 ⟨rfl, rfl⟩
            go_wp2_with fail
            refine (C2.out _).mono ?_
            rintro e w1 ⟨rfl, rfl⟩
            go_wp2_with fail
            refine D0.out.mono ?_
            rintro e w1 ⟨rfl, b1⟩
            have B1 := Lib.hid b1
            clear b1
            go_wp2_with fail
            refine (D1.out _ B1.out).mono ?_
            rintro e w2 ⟨rfl, b2⟩
            have B2 := Lib.hid (bt B1.out b2)
            clear b2
            go_wp2_with fail
            go_loopw [13, 14] (fun s8 s9 wr => ∃ (lo hi : Nat), 1 ≤ lo ∧ lo ≤ hi ∧ hi ≤ 1000000 ∧ s8 = .int .i64 lo ∧ s9 = .int .i64 hi ∧ Hid (∀ a : Nat, a < lo → (!Sb.stb a ri ru d t xs) = false) ∧ Hid ((!Sb.stb hi ri ru d t xs) = true) ∧ Hid (Below w.heap.size w wr)) (fun a b _ => (intOf b - intOf a).toNat)
            case atStart => exact ⟨1, 1000000, by omega, by omega, by omega, rfl, rfl, Lib.hid (fun a ha => by
              obtain rfl : a = 0 := by omega
              show (!Sb.stb (((0 : Nat)) : Int) ri ru d t xs) = false
              rw [show (((0 : Nat)) : Int) = 0 from rfl, H4.out]; rfl), Lib.hid (by
              show (!Sb.stb (((1000000 : Nat)) : Int) ri ru d t xs) = true
              rw [show (((1000000 : Nat)) : Int) = 1000000 from rfl, H5.out]; rfl), B2⟩
            case round =>
              obtain ⟨lo, hi, q1, q2, q3, rfl, rfl, hA, hB, hbw⟩ := hrel
              by_cases hlt : lo < hi
              · have hltz : (lo : Int) < (hi : Int) := by omega
                obtain ⟨mm, hmm⟩ : ∃ mm : Nat, ((lo : Int) + hi) / 2 = mm := ⟨(lo + hi) / 2, by omega⟩
                have m1 : lo ≤ mm := by omega
                have m2 : mm < hi := by omega
                have DM := Lib.hid (CS.out wr mm hbw.out (by omega) (by omega))
                have EM := Lib.hid hmm
                clear hmm
                cases h6 : Sb.stb mm ri ru d t xs with
                | true =>
                  have hA2 : Hid (∀ a : Nat, a < mm + 1 → (!Sb.stb a ri ru d t xs) = false) := Lib.hid (fun a ha => by
                    cases hb : (!Sb.stb a ri ru d t xs) with
                    | false => rfl
                    | true => have := HM.out a mm (by omega) hb; rw [h6] at this; cases this)
                  rw [h6] at DM
                  clear h6
                  go_wp2_with fail
                  rw [EM.out]
                  refine DM.out.mono ?_
                  rintro e w3 ⟨rfl, b3⟩
                  have B3 := Lib.hid (bt hbw.out b3)
                  clear b3 hbw
                  go_wp2_with fail
                  exact ⟨⟨mm + 1, hi, by omega, by omega, by omega, by go_num, rfl, hA2, hB, B3⟩, by simp only [intOf]; omega⟩
                | false =>
                  have hB2 : Hid ((!Sb.stb mm ri ru d t xs) = true) := Lib.hid (by rw [h6]; rfl)
                  rw [h6] at DM
                  clear h6
                  go_wp2_with fail
                  rw [EM.out]
                  refine DM.out.mono ?_
                  rintro e w3 ⟨rfl, b3⟩
                  have B3 := Lib.hid (bt hbw.out b3)
                  clear b3 hbw
                  go_wp2_with fail
                  exact ⟨⟨lo, mm, by omega, by omega, by omega, rfl, rfl, hA, hB2, B3⟩, by simp only [intOf]; omega⟩
              · have hlh : hi = lo := by omega
                have hltz : ¬ (lo : Int) < (hi : Int) := by omega
                subst hlh
                have hr := Lib.hid (hfound.out hi q1 q3 hA.out hB.out)
                go_wp2
                go_ret2
                exact ⟨ret_p2 hr.out, hbw.out⟩
set_option maxHeartbeats 3200000 in
theorem specSteepestFor_any (w : World) (v : Value) (xs : List Lay) (ru d t : Int) (hv : LAs w v xs) (hl : xs.length ≤ 1048576) :
    Calls Tryd.prog 25 #[v, .int .i64 ru, .int .i64 d, .int .i64 t] w fun e w' => e = .returned (.tuple #[.int .i64 (Sb.sf xs ru d t).1, .int .i64 (Sb.sf xs ru d t).2]) ∧ Below w.heap.size w w' := by
  have HV := Lib.hid hv
  have C1 := Lib.hid (l07Ask_any w v xs 0 ru d hv.sl hl)
  have C2 := Lib.hid (fun W => l07Limit_any t W)
  rw [show Ar.inB 0 t 1000000 = Sb.lim t from rfl] at C2
  obtain ⟨B, b, cap, rfl, ho⟩ := hv
  clear ho
  cases h1 : La.okP xs with
  | false =>
    have hr := Lib.hid (Sb.sf_1 (ru := ru) (d := d) (t := t) h1)
    rw [h1, cd_f] at C1
    clear h1
    go_enter Tryd.func25, Tryd.ntmps25
    go_wp2_with fail
    refine C1.out.mono ?_
    rintro e w1 ⟨rfl, rfl⟩
    go_wp2_with fail
    go_ret2
    exact ⟨ret_p2 hr.out, Below.refl _ _⟩
  | true =>
    cases h2 : Sb.sd 0 ru d with
    | false =>
      have hr := Lib.hid (Sb.sf_2 (t := t) h1 (Or.inl h2))
      rw [h1, h2, cd_tf] at C1
      clear h1 h2
      go_enter Tryd.func25, Tryd.ntmps25
      go_wp2_with fail
      refine C1.out.mono ?_
      rintro e w1 ⟨rfl, rfl⟩
      go_wp2_with fail
      go_ret2
      exact ⟨ret_p2 hr.out, Below.refl _ _⟩
    | true =>
      have hfine := Sb.fine h1 h2
      rw [h1, h2, cd_tt] at C1
      cases h3 : Sb.lim t with
      | false =>
        have hr := Lib.hid (Sb.sf_2 (ru := ru) (d := d) h1 (Or.inr h3))
        rw [h3] at C2
        clear h1 h2 h3 hfine
        go_enter Tryd.func25, Tryd.ntmps25
        go_wp2_with fail
        refine C1.out.mono ?_
        rintro e w1 ⟨rfl, rfl⟩
        go_wp2_with fail
        refine (C2.out _).mono ?_
        rintro e w1 ⟨rfl, rfl⟩
        go_wp2_with fail
        go_ret2
        exact ⟨ret_p2 hr.out, Below.refl _ _⟩
      | true =>
        rw [h3] at C2
        have u0 := hfine.slo.u0
        have u1 := hfine.slo.u1
        have CS := Lib.hid (fun W (j : Nat) (h : Below w.heap.size w W) (hj : j < ru.toNat + 1) => l07Stable_any W _ xs 0 j ru d t (HV.out.all h) ⟨hfine.okp, ⟨by omega, by omega, u0, u1⟩, hfine.d0, hfine.d1⟩ (by omega) (by omega))
        have hfound := Lib.hid (fun (j : Nat) hj hs hk => Sb.sf_found (j := j) h1 h2 h3 hj hs hk)
        have hsome := Lib.hid (Sb.sf_some h1 h2 h3)
        clear h1 h2 h3 hfine
        go_enter Tryd.func25, Tryd.ntmps25
        go_wp2_with fail
        refine C1.out.mono ?_
        rintro e w1 ⟨rfl, rfl⟩
        go_wp2_with fail
        refine (C2.out _).mono ?_
        rintro e w1 ⟨rfl, rfl⟩
        go_wp2_with fail
        go_loopw [11] (fun s7 wr => ∃ (j : Nat), j ≤ ru.toNat + 1 ∧ s7 = .int .i64 ((j : Int) - 1) ∧ Hid (∀ a : Nat, j ≤ a → a < ru.toNat + 1 → (!Sb.stb 0 a ru d t xs) = true) ∧ Hid (Below w.heap.size w wr)) (fun a _ => (intOf a + 1).toNat)
        case atStart => exact ⟨ru.toNat + 1, Nat.le_refl _, by congr 1; omega, Lib.hid (fun a h h' => by omega), Lib.hid (Below.refl _ _)⟩
        case round =>
          obtain ⟨j, hj, rfl, hA, hbw⟩ := hrel
          rcases j with _ | j
          · exfalso
            have := hA.out 0 (Nat.zero_le _) (by omega)
            rw [show (((0 : Nat)) : Int) = 0 from rfl, hsome.out] at this
            cases this
          · rw [show ((j + 1 : Nat) : Int) - 1 = (j : Int) by omega]
            have hj0 : ¬ (j : Int) < 0 := by omega
            have hj1 : (0 : Int) ≤ j := by omega
            have DM := Lib.hid (CS.out wr j hbw.out (by omega))
            cases h6 : Sb.stb 0 j ru d t xs with
            | true =>
              have hr := Lib.hid (hfound.out j (by omega) h6 hA.out)
              rw [h6] at DM
              clear h6
              go_wp2_with fail
              refine DM.out.mono ?_
              rintro e w3 ⟨rfl, b3⟩
              have B3 := Lib.hid (bt hbw.out b3)
              clear b3 hbw
              go_wp2_with fail
              go_ret2
              exact ⟨ret_p2 hr.out, B3.out⟩
            | false =>
              have hA2 : Hid (∀ a : Nat, j ≤ a → a < ru.toNat + 1 → (!Sb.stb 0 a ru d t xs) = true) := Lib.hid (fun a h h' => by
                by_cases e : a = j
                · rw [e, h6]; rfl
                · exact hA.out a (by omega) h')
              rw [h6] at DM
              clear h6
              go_wp2_with fail
              refine DM.out.mono ?_
              rintro e w3 ⟨rfl, b3⟩
              have B3 := Lib.hid (bt hbw.out b3)
              clear b3 hbw
              go_wp2_with fail
              exact ⟨⟨j, by omega, by go_num, hA2, B3⟩, by simp only [intOf]; omega⟩
theorem okP_drop {xs : List Lay} {k : Nat} (h : La.okP xs = true) : La.okP (xs.drop k) = true := by
  obtain ⟨h1, h2⟩ := (La.okP_iff xs).1 h
  exact (La.okP_iff _).2 ⟨by rw [List.length_drop]; omega, fun x hx => h2 x (List.mem_of_mem_drop hx)⟩
set_option maxHeartbeats 3200000 in
theorem specSlabOf_any (w : World) (v : Value) (xs : List Lay) (ri ru d : Int) (hv : LAs w v xs) (hl : xs.length ≤ 1048576) :
    Calls Tryd.prog 27 #[v, .int .i64 ri, .int .i64 ru, .int .i64 d] w fun e w' => e = .returned (.tuple #[.int .i64 (Sb.sb xs ri ru d).1, .int .i64 (Sb.sb xs ri ru d).2]) ∧ Below w.heap.size w w' := by
  have HV := Lib.hid hv
  have C1 := Lib.hid (l07Ask_any w v xs ri ru d hv.sl hl)
  obtain ⟨B, b, cap, rfl, ho⟩ := hv
  cases h1 : La.okP xs with
  | false =>
    have hr := Lib.hid (Sb.sb_c (Sb.wl_1 (ri := ri) (ru := ru) (d := d) h1) (by omega))
    rw [h1, cd_f] at C1
    clear h1 ho
    go_enter Tryd.func27, Tryd.ntmps27
    go_wp2_with fail
    refine C1.out.mono ?_
    rintro e w1 ⟨rfl, rfl⟩
    go_wp2_with fail
    go_ret2
    exact ⟨ret_p2 hr.out, Below.refl _ _⟩
  | true =>
    cases h2 : Sb.sd ri ru d with
    | false =>
      have hr := Lib.hid (Sb.sb_c (Sb.wl_2 h1 h2) (by omega))
      rw [h1, h2, cd_tf] at C1
      clear h1 h2 ho
      go_enter Tryd.func27, Tryd.ntmps27
      go_wp2_with fail
      refine C1.out.mono ?_
      rintro e w1 ⟨rfl, rfl⟩
      go_wp2_with fail
      go_ret2
      exact ⟨ret_p2 hr.out, Below.refl _ _⟩
    | true =>
      have C2 := Lib.hid (l07Weakest_any w _ xs 0 ri ru d HV.out (Sb.fine h1 h2) (by omega) (by omega))
      rw [h1, h2, cd_tt] at C1
      by_cases h3 : xs = []
      · have hn := (Sb.wkB_neg (zs := Sb.ixs 0 ri ru d xs)).2 (Sb.ixs_nil.2 h3)
        have hr : Hid (Sb.sb xs ri ru d = (0, 3)) := Lib.hid (by subst h3; exact Sb.sb_c (Sb.wl_3 h2) (by omega))
        clear h1 h2 h3 ho
        generalize Sb.wkB (Sb.ixs 0 ri ru d xs) = kk at *
        generalize Sb.wkL (Sb.ixs 0 ri ru d xs) = ll at *
        go_enter Tryd.func27, Tryd.ntmps27
        go_wp2_with fail
        refine C1.out.mono ?_
        rintro e w1 ⟨rfl, rfl⟩
        go_wp2_with fail
        refine C2.out.mono ?_
        rintro e w1 ⟨rfl, b1⟩
        have B1 := Lib.hid b1
        clear b1
        go_wp2_with fail
        go_ret2
        exact ⟨ret_p2 hr.out, B1.out⟩
      · have hn : ¬ Sb.wkB (Sb.ixs 0 ri ru d xs) < 0 := fun h => h3 (Sb.ixs_nil.1 (Sb.wkB_neg.1 h))
        obtain ⟨k, hk, hkl⟩ := Sb.wkB_at (m := 0) (ri := ri) (ru := ru) (d := d) h3
        have hr : Hid (Sb.sb xs ri ru d = (La.sm La.thick (xs.drop (k + 1)), 0)) := Lib.hid (by rw [Sb.sb_0 h1 h2 h3, hk, Int.toNat_natCast])
        have hokd : La.okP (xs.drop (k + 1)) = true := okP_drop h1
        have HT := Lib.hid (fun W (h : Below w.heap.size w W) => l03Height_any W _ _ hokd ((ho.belowAll h).tail hkl))
        have HZ : Hid (k + 1 = xs.length → xs.drop (k + 1) = []) := Lib.hid (fun h => List.drop_eq_nil_of_le (by omega))
        have hl16 : xs.length ≤ 16 := ((La.okP_iff xs).1 h1).1
        obtain ⟨-, hc1, hc2⟩ := own_cap ho
        unfold maxLen at hc2
        rw [hk] at hn C2
        clear h1 h2 h3 ho
        generalize Sb.wkL (Sb.ixs 0 ri ru d xs) = ll at *
        by_cases hb : cap = k + 1
        · subst hb
          have hkn : xs.length = k + 1 := by omega
          have HT2 := Lib.hid (fun W => l03Height_any W (.slice (some ⟨b, 0, none⟩) 0 0) (xs.drop (k + 1)) hokd (Or.inl ⟨HZ.out hkn.symm, _, _, rfl⟩))
          clear HT hkn HZ
          generalize xs.drop (k + 1) = ys at *
          go_enter Tryd.func27, Tryd.ntmps27
          go_wp2_with fail
          refine C1.out.mono ?_
          rintro e w1 ⟨rfl, rfl⟩
          go_wp2_with fail
          refine C2.out.mono ?_
          rintro e w1 ⟨rfl, b1⟩
          have B1 := Lib.hid b1
          clear b1
          go_wp2_with fail
          refine (HT2.out _).mono ?_
          rintro e w2 ⟨rfl, b2⟩
          have B2 := Lib.hid (bt B1.out b2)
          clear b2
          go_wp2_with fail
          go_ret2
          exact ⟨ret_p2 hr.out, B2.out⟩
        · clear HZ
          generalize xs.drop (k + 1) = ys at *
          go_enter Tryd.func27, Tryd.ntmps27
          go_wp2_with fail
          refine C1.out.mono ?_
          rintro e w1 ⟨rfl, rfl⟩
          go_wp2_with fail
          refine C2.out.mono ?_
          rintro e w1 ⟨rfl, b1⟩
          have B1 := Lib.hid b1
          clear b1
          go_wp2_with fail
          refine (HT.out _ B1.out).mono ?_
          rintro e w2 ⟨rfl, b2⟩
          have B2 := Lib.hid (bt B1.out b2)
          clear b2
          go_wp2_with fail
          go_ret2
          exact ⟨ret_p2 hr.out, B2.out⟩
end Go.Proofs.YteikghppebiibaaDoor

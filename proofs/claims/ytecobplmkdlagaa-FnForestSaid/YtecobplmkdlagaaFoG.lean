/-
  The years until a stand protects, by the model and by the program. The condition: no name is longer than 2^20. (Written by wip/gen/genfog.py.)
-/
import Derived.Test.YtecobplmkdlagaaFoE
import Derived.Test.YtecobplmkdlagaaFoF
import Derived.Deep.LoopGhost
import Derived.WalkMore
namespace Go.Proofs.Ytecobplmkdlagaa
open Go.RowKit Go.Shelf
set_option linter.unusedVariables false
set_option maxRecDepth 100000

namespace Fo
theorem yuO_start (x : Std) (s l : Int) : yuO x s l = ff (yuP x s l) (201 - 0) 0 := rfl
theorem yu_yes {x : Std} {s l : Int} {k : Nat} (hk : k ≤ 200) (h : yuO x s l = ff (yuP x s l) (201 - k) k) (hp : l ≤ pr (ys k x) s) : yuO x s l = some k := by
  rw [h, show 201 - k = 200 - k + 1 by omega, ff_yes (decide_eq_true hp)]
theorem yu_no {x : Std} {s l : Int} {k : Nat} (hk : k ≤ 200) (h : yuO x s l = ff (yuP x s l) (201 - k) k) (hp : ¬ l ≤ pr (ys k x) s) : yuO x s l = ff (yuP x s l) (201 - (k + 1)) (k + 1) := by
  rw [h, show 201 - k = 201 - (k + 1) + 1 by omega, ff_no (decide_eq_false hp)]
theorem yu_end {x : Std} {s l : Int} (h : yuO x s l = ff (yuP x s l) (201 - 201) 201) : yuO x s l = none := h
theorem yu_stop {x : Std} {s l : Int} {k : Nat} (h : yuO x s l = ff (yuP x s l) (201 - k) k) (hp : ¬ l ≤ pr (ys k x) s) (he : ys (k + 1) x = ys k x) : yuO x s l = none := by
  rw [h]; exact yuP_stop he (decide_eq_false hp) _
end Fo
set_option maxHeartbeats 3200000 in
theorem specYearsUntil_any (x : Std) (s l : Int) (w : World) (hx : x.id.length ≤ 1048576) :
    Calls Try.prog 35 #[.agg #[.string ⟨x.id.toArray⟩, .int .i64 x.tr, .int .i64 x.he, .int .i64 x.co, .int .i64 x.ga], .int .i64 s, .int .i64 l] w fun e w' => e = .returned (.tuple #[.int .i64 (Fo.yuV x s l), .int .i64 (Fo.yuC x s l)]) ∧ Below w.heap.size w w' := by
  have O := Lib.hid (l10One_any x w.heap.size 0 _ (boxStd_cells w x 34) hx)
  have S1 := Lib.hid (fun W => l10Snow_any s W)
  have S := Lib.hid (fun W => l10Least_any l W)
  have B := Lib.hid (boxStd_below w x 34)
  have T := Lib.hid (StdAt.box w x)
  unfold Fo.yuV Fo.yuC
  unfold boxStd at O B T
  cases hq : Fo.ok1 x with
  | false =>
    rw [hq] at O
    rw [Cd.vl_f, Cd.cd_f]
    clear hq hx
    go_enter Try.func35, Try.ntmps35
    go_wp2_with fail
    refine O.out.mono ?_
    rintro e w' ⟨rfl, rfl⟩
    go_wp2_with fail
    go_ret2
    exact ⟨rfl, B.out⟩
  | true =>
    rw [hq] at O
    have hf := Lib.hid (Fo.ok1_fits hq)
    clear hq hx
    cases hs : Fo.lim s l with
    | false =>
      rw [Cd.vl_tf, Cd.cd_tf]
      unfold Fo.lim at hs
      cases hp : Ar.inB 0 s 2000 with
      | false =>
        rw [hp] at S1
        clear hs hp
        go_enter Try.func35, Try.ntmps35
        go_wp2_with fail
        refine O.out.mono ?_
        rintro e w' ⟨rfl, rfl⟩
        go_wp2_with fail
        refine (S1.out _).mono ?_
        rintro e w' ⟨rfl, rfl⟩
        go_wp2_with fail
        go_ret2
        exact ⟨rfl, B.out⟩
      | true =>
        rw [hp, Bool.true_and] at hs
        rw [hp] at S1
        rw [hs] at S
        clear hs hp
        go_enter Try.func35, Try.ntmps35
        go_wp2_with fail
        refine O.out.mono ?_
        rintro e w' ⟨rfl, rfl⟩
        go_wp2_with fail
        refine (S1.out _).mono ?_
        rintro e w' ⟨rfl, rfl⟩
        go_wp2_with fail
        refine (S.out _).mono ?_
        rintro e w' ⟨rfl, rfl⟩
        go_wp2_with fail
        go_ret2
        exact ⟨rfl, B.out⟩
    | true =>
      obtain ⟨⟨h1, h2⟩, h3, h4⟩ := Fo.lim_of hs
      rw [Cd.vl_t, Cd.cd_t]
      unfold Fo.lim at hs
      rw [Bool.and_eq_true] at hs
      rw [hs.1] at S1
      rw [hs.2] at S
      clear hs
      have Z := Lib.hid (Fo.yuO_start x s l)
      go_enter Try.func35, Try.ntmps35
      go_wp2_with fail
      refine O.out.mono ?_
      rintro e w' ⟨rfl, rfl⟩
      go_wp2_with fail
      refine (S1.out _).mono ?_
      rintro e w' ⟨rfl, rfl⟩
      go_wp2_with fail
      refine (S.out _).mono ?_
      rintro e w' ⟨rfl, rfl⟩
      go_wp2_with fail
      go_loopw [8] (fun i wr => ∃ k : Nat, k ≤ 201 ∧ i = .int .i64 k ∧ Hid (Fo.yuO x s l = Fo.ff (Fo.yuP x s l) (201 - k) k) ∧ Hid (StdAt wr w.heap.size (Fo.ys k x)) ∧ Hid (Below w.heap.size w wr)) (fun i _ => 201 - (intOf i).toNat)
      case atStart => exact ⟨0, by omega, rfl, Z, T, B⟩
      case round =>
        obtain ⟨k, hk, rfl, hz, hT, hb⟩ := hrel
        by_cases hlt : k ≤ 200
        · have P := Lib.hid (l10Prot_b (Fo.ys k x) w.heap.size 0 s wr hT.out.cells (Fo.ys_fits hf.out k) h1 h2)
          have G := Lib.hid (fun W => l10Year_any (Fo.ys k x) W (Fo.ys_fits hf.out k))
          have e : Fo.yr (Fo.ys k x) = Fo.ys (k + 1) x := rfl
          rw [e] at G
          clear e
          have hY := Lib.hid (fun h => Fo.yu_yes hlt hz.out h)
          have hN := Lib.hid (fun h => Fo.yu_no hlt hz.out h)
          obtain ⟨z, ez⟩ : ∃ z, Fo.ys (k + 1) x = z := ⟨_, rfl⟩
          rw [ez] at G
          have EZ := Lib.hid ez
          clear ez hz
          by_cases ht : l ≤ Fo.pr (Fo.ys k x) s
          · have hR := Lib.hid (hY.out ht)
            clear hY hN G
            generalize Fo.pr (Fo.ys k x) s = p at *
            go_wp2_with fail
            refine P.out.mono ?_
            rintro e w2 ⟨rfl, b2⟩
            have B2 := Lib.hid (bt hb.out b2)
            clear b2
            go_wp2_with fail
            go_ret2
            exact ⟨by rw [hR.out]; rfl, B2.out⟩
          · have hR := Lib.hid (hN.out ht)
            clear hY hN
            generalize Fo.pr (Fo.ys k x) s = p at *
            generalize Fo.ys k x = u at *
            go_wp2_with fail
            refine P.out.mono ?_
            rintro e w2 ⟨rfl, b2⟩
            have T2 := Lib.hid (hT.out.all b2)
            have B2 := Lib.hid (bt hb.out b2)
            obtain ⟨c0, c1, c2, c3, c4⟩ := T2.out.five
            clear b2 hT hb
            go_wp2_with fail
            refine (G.out _).mono ?_
            rintro e w3 ⟨rfl, b3⟩
            have T3 := Lib.hid (T2.out.all b3)
            have B3 := Lib.hid (bt B2.out b3)
            clear b3 c0 c1 c2 c3 c4 T2 B2 G P
            obtain ⟨d0, d1, d2, d3, d4⟩ := T3.out.five
            have f0 := T3.out.free5 0; have f1 := T3.out.free5 1; have f2 := T3.out.free5 2; have f3 := T3.out.free5 3; have f4 := T3.out.free5 4
            have T4 := Lib.hid (T3.out.put z)
            have B4 := Lib.hid (below_put B3.out (Nat.le_refl _) z)
            clear T3 B3
            go_wp2_with fail
            exact ⟨⟨k + 1, by omega, by go_num, hR, Lib.hid (by rw [EZ.out]; exact T4.out), B4⟩, by simp only [intOf]; omega⟩
        · have hkn : k = 201 := by omega
          subst hkn
          have hR := Lib.hid (Fo.yu_end hz.out)
          clear hz hT
          go_wp2_with fail
          go_ret2
          exact ⟨by rw [hR.out]; rfl, hb.out⟩
theorem boxSD_two (w : World) (x : Std) (s l : Int) (u : TypeId) : StdAt (boxSD w x s l 34 u) w.heap.size x ∧ Whole (boxSD w x s l 34 u) (w.heap.size + 1) u #[.int .i64 s, .int .i64 l] := by
  refine ⟨Whole.alloc (StdAt.box w x) _, ?_⟩
  have := Whole.new (boxStd w x 34) u #[.int .i64 s, .int .i64 l]
  rw [boxStd_size] at this
  exact this
set_option maxHeartbeats 3200000 in
theorem implYearsUntil_any (x : Std) (s l : Int) (w : World) (hx : x.id.length ≤ 1048576) :
    Calls Try.prog 36 #[.agg #[.string ⟨x.id.toArray⟩, .int .i64 x.tr, .int .i64 x.he, .int .i64 x.co, .int .i64 x.ga], .int .i64 s, .int .i64 l] w fun e w' => e = .returned (.tuple #[.int .i64 (Fo.yuV x s l), .int .i64 (Fo.yuC x s l)]) ∧ Below w.heap.size w w' := by
  have D := Lib.hid (fun W => demandStated_any s l W)
  have C := Lib.hid (fun W => standCode_any x (Fo.lim s l) W hx)
  have B := Lib.hid (boxSD_below w x s l 34 69)
  have K := Lib.hid (fun W (hb : Below (boxSD w x s l 34 69).heap.size (boxSD w x s l 34 69) W) => boxSD_kept hb)
  have KT := Lib.hid (fun W (hb : Below (boxSD w x s l 34 69).heap.size (boxSD w x s l 34 69) W) => (⟨(boxSD_two w x s l 69).1.all hb, (boxSD_two w x s l 69).2.all hb⟩ : StdAt W w.heap.size x ∧ Whole W (w.heap.size + 1) 69 #[.int .i64 s, .int .i64 l]))
  have F : Hid (Fo.ok1 x = true → Fo.Fits x) := Lib.hid Fo.ok1_fits
  have FL : Hid (Fo.lim s l = true → 0 ≤ s ∧ s ≤ 2000) := Lib.hid (fun h => (Fo.lim_of h).1)
  have Z := Lib.hid (Fo.yuO_start x s l)
  unfold Fo.yuV Fo.yuC
  clear hx
  generalize Fo.ok1 x = q at *
  unfold boxSD boxStd at B K KT
  cases hs : Fo.lim s l with
  | false =>
    rw [hs] at C D
    clear Z
    generalize Fo.yuO x s l = o at *
    have hc : Hid ((Cd.cd q false 0 != 0) = true) := Lib.hid (by cases q <;> rfl)
    have hv : Hid (Cd.vl q false (Fo.oV o) = 0) := Lib.hid (by cases q <;> rfl)
    have hd : Hid (Cd.cd q false (Fo.oC o) = Cd.cd q false 0) := Lib.hid (by cases q <;> rfl)
    rw [hv.out, hd.out]
    clear hd
    generalize Cd.cd q false 0 = c at *
    have hc := hc.out
    clear hs hv F FL
    go_enter Try.func36, Try.ntmps36
    go_wp2_with fail
    go_step3
    go_wp2_with fail
    go_region_held3 (fun w' => w'.cell? ⟨w.heap.size, 0, none⟩ = some (.string ⟨x.id.toArray⟩) ∧ w'.cell? ⟨w.heap.size, 1, none⟩ = some (.int .i64 x.tr) ∧ w'.cell? ⟨w.heap.size, 2, none⟩ = some (.int .i64 x.he) ∧ w'.cell? ⟨w.heap.size, 3, none⟩ = some (.int .i64 x.co) ∧ w'.cell? ⟨w.heap.size, 4, none⟩ = some (.int .i64 x.ga) ∧ w'.cell? ⟨w.heap.size + 1, 0, none⟩ = some (.int .i64 s) ∧ w'.cell? ⟨w.heap.size + 1, 1, none⟩ = some (.int .i64 l)) (go_keep)
      (first
        | (go_at_call 54; refine (D.out _).mono ?_; rintro e wA ⟨rfl, bA⟩; have bA0 := bt (below_drewW _ 1) bA; obtain ⟨yy, y5, y6⟩ := K.out wA bA0; obtain ⟨y0, y1, y2, y3, y4⟩ := yy.zero)
        | (go_at_call 53; refine (C.out _).mono ?_; rintro e wB ⟨rfl, bB⟩; have bB0 := bt bA0 bB; obtain ⟨zz, z5, z6⟩ := K.out wB bB0; obtain ⟨z0, z1, z2, z3, z4⟩ := zz.zero))
    all_goals (
      go_wp2_with fail
      (try rw [Exit.noGoto_ret])
      go_ret2
      exact ⟨rfl, bt B.out bB0⟩)
  | true =>
    obtain ⟨h1, h2⟩ := FL.out hs
    rw [hs] at C D
    clear hs FL
    cases q with
    | false =>
      rw [Cd.vl_f, Cd.cd_f]
      simp only [Cd.cd_f] at C
      clear F h1 h2 Z
      go_enter Try.func36, Try.ntmps36
      go_wp2_with fail
      go_step3
      go_wp2_with fail
      go_region_held3 (fun w' => w'.cell? ⟨w.heap.size, 0, none⟩ = some (.string ⟨x.id.toArray⟩) ∧ w'.cell? ⟨w.heap.size, 1, none⟩ = some (.int .i64 x.tr) ∧ w'.cell? ⟨w.heap.size, 2, none⟩ = some (.int .i64 x.he) ∧ w'.cell? ⟨w.heap.size, 3, none⟩ = some (.int .i64 x.co) ∧ w'.cell? ⟨w.heap.size, 4, none⟩ = some (.int .i64 x.ga) ∧ w'.cell? ⟨w.heap.size + 1, 0, none⟩ = some (.int .i64 s) ∧ w'.cell? ⟨w.heap.size + 1, 1, none⟩ = some (.int .i64 l)) (go_keep)
      (first
        | (go_at_call 54; refine (D.out _).mono ?_; rintro e wA ⟨rfl, bA⟩; have bA0 := bt (below_drewW _ 1) bA; obtain ⟨yy, y5, y6⟩ := K.out wA bA0; obtain ⟨y0, y1, y2, y3, y4⟩ := yy.zero)
        | (go_at_call 53; refine (C.out _).mono ?_; rintro e wB ⟨rfl, bB⟩; have bB0 := bt bA0 bB; obtain ⟨zz, z5, z6⟩ := K.out wB bB0; obtain ⟨z0, z1, z2, z3, z4⟩ := zz.zero))
      all_goals (
        go_wp2_with fail
        (try rw [Exit.noGoto_ret])
        go_ret2
        exact ⟨rfl, bt B.out bB0⟩)
    | true =>
      have hf := Lib.hid (F.out rfl)
      rw [Cd.vl_t, Cd.cd_t]
      simp only [Cd.cd_t] at C
      clear F
      go_enter Try.func36, Try.ntmps36
      go_wp2_with fail
      go_step3
      go_wp2_with fail
      go_region_held3 (fun w' => w'.cell? ⟨w.heap.size, 0, none⟩ = some (.string ⟨x.id.toArray⟩) ∧ w'.cell? ⟨w.heap.size, 1, none⟩ = some (.int .i64 x.tr) ∧ w'.cell? ⟨w.heap.size, 2, none⟩ = some (.int .i64 x.he) ∧ w'.cell? ⟨w.heap.size, 3, none⟩ = some (.int .i64 x.co) ∧ w'.cell? ⟨w.heap.size, 4, none⟩ = some (.int .i64 x.ga) ∧ w'.cell? ⟨w.heap.size + 1, 0, none⟩ = some (.int .i64 s) ∧ w'.cell? ⟨w.heap.size + 1, 1, none⟩ = some (.int .i64 l)) (go_keep)
      (first
        | (go_at_call 54; refine (D.out _).mono ?_; rintro e wA ⟨rfl, bA⟩; have bA0 := bt (below_drewW _ 1) bA; obtain ⟨yy, y5, y6⟩ := K.out wA bA0; obtain ⟨y0, y1, y2, y3, y4⟩ := yy.zero)
        | (go_at_call 53; refine (C.out _).mono ?_; rintro e wB ⟨rfl, bB⟩; have bB0 := bt bA0 bB; obtain ⟨zz, z5, z6⟩ := K.out wB bB0; obtain ⟨z0, z1, z2, z3, z4⟩ := zz.zero))
      all_goals (
        have KK := Lib.hid (KT.out _ bB0)
        have BB := Lib.hid (bt B.out bB0)
        clear bB0 bB bA bA0 y0 y1 y2 y3 y4 y5 y6 z0 z1 z2 z3 z4 z5 z6 yy zz K KT
        go_wp2_with fail
        go_step3
        go_wp2_with fail
        go_loopg [22] 201 (fun gh i wr => ∃ k : Nat, k + gh = 201 ∧ i = .int .i64 k ∧ Hid (Fo.yuO x s l = Fo.ff (Fo.yuP x s l) (201 - k) k) ∧ Hid (StdAt wr w.heap.size (Fo.ys k x)) ∧ Hid (Whole wr (w.heap.size + 1) 69 #[.int .i64 s, .int .i64 l]) ∧ Hid (Below w.heap.size w wr))
        case atStart => exact ⟨0, by omega, rfl, Z, Lib.hid KK.out.1, Lib.hid KK.out.2, BB⟩
        case round =>
          obtain ⟨k, hk, rfl, hz, hT, hD, hb⟩ := hrel
          by_cases hlt : k < 201
          · obtain ⟨gh, rfl⟩ : ∃ gh, gk = gh + 1 := ⟨gk - 1, by omega⟩
            have hlt' : k ≤ 200 := by omega
            have G := Lib.hid (fun W => grown_any (Fo.ys k x) W (Fo.ys_fits hf.out k))
            have M := Lib.hid (fun W => isMetBy_any s l (Fo.ys k x) W (Fo.ys_fits hf.out k) h1 h2)
            have e : Fo.yr (Fo.ys k x) = Fo.ys (k + 1) x := rfl
            have em : Fo.met s l (Fo.ys k x) = decide (l ≤ Fo.pr (Fo.ys k x) s) := rfl
            rw [e] at G
            rw [em] at M
            have hY := Lib.hid (fun h => Fo.yu_yes hlt' hz.out h)
            have hN := Lib.hid (fun h => Fo.yu_no hlt' hz.out h)
            obtain ⟨z, ez⟩ : ∃ z, Fo.ys (k + 1) x = z := ⟨_, rfl⟩
            rw [ez] at G
            have hS := Lib.hid (fun (h : ¬ l ≤ Fo.pr (Fo.ys k x) s) (h' : z = Fo.ys k x) => Fo.yu_stop hz.out h (ez.trans h'))
            have QE := fun W => eql_Stand z (Fo.ys k x) W
            have QT := Lib.hid (fun h : Sn.eqL z (Fo.ys k x) = true => Sn.eqL_true h)
            have EZ := Lib.hid ez
            obtain ⟨c0, c1, c2, c3, c4⟩ := hT.out.five
            clear ez hz e em
            by_cases ht : l ≤ Fo.pr (Fo.ys k x) s
            · have hR := Lib.hid (hY.out ht)
              have ht' : decide (l ≤ Fo.pr (Fo.ys k x) s) = true := decide_eq_true ht
              rw [ht'] at M
              clear hY hN hS QE QT ht ht' EZ
              generalize Fo.ys k x = u at *
              go_wp2_with fail
              refine (G.out _).mono ?_
              rintro e w2 ⟨rfl, b2⟩
              have T2 := Lib.hid ((hT.out.all b2).all (boxStd_below w2 z 34))
              have D2 := Lib.hid ((hD.out.all b2).all (boxStd_below w2 z 34))
              have B2 := Lib.hid (bt hb.out (bt b2 (boxStd_below w2 z 34)))
              unfold boxStd at T2 D2 B2
              clear b2 c0 c1 c2 c3 c4 hT hD hb G
              obtain ⟨c0, c1, c2, c3, c4⟩ := T2.out.five
              have k0 := D2.out.at_ 0
              have k1 := D2.out.at_ 1
              simp only [List.getElem?_toArray, List.getElem?_cons_zero, List.getElem?_cons_succ] at k0 k1
              go_wp2_with fail
              refine (M.out _).mono ?_
              rintro e w3 ⟨rfl, b3⟩
              have B3 := Lib.hid (bt B2.out b3)
              clear b3
              go_wp2_with fail
              (try rw [Exit.noGoto_ret])
              go_ret2
              exact ⟨by rw [hR.out]; rfl, B3.out⟩
            · have ht' : decide (l ≤ Fo.pr (Fo.ys k x) s) = false := decide_eq_false ht
              rw [ht'] at M
              have hS2 := Lib.hid (hS.out ht)
              have hR := Lib.hid (hN.out ht)
              clear hY hN hS ht ht'
              generalize Fo.ys k x = u at *
              go_wp2_with fail
              refine (G.out _).mono ?_
              rintro e w2 ⟨rfl, b2⟩
              have T2 := Lib.hid ((hT.out.all b2).all (boxStd_below w2 z 34))
              have D2 := Lib.hid ((hD.out.all b2).all (boxStd_below w2 z 34))
              have B2 := Lib.hid (bt hb.out (bt b2 (boxStd_below w2 z 34)))
              have K2 := Lib.hid (fun W (h : Below (boxStd w2 z 34).heap.size (boxStd w2 z 34) W) => (⟨T2.out.all h, Whole.all D2.out h, boxStd_kept h, bt B2.out h⟩ : StdAt W w.heap.size u ∧ Whole W (w.heap.size + 1) 69 #[.int .i64 s, .int .i64 l] ∧ SnCells W w2.heap.size 0 z ∧ Below w.heap.size w W))
              unfold boxStd at T2 D2 B2 K2
              clear b2 c0 c1 c2 c3 c4 hT hD hb G
              obtain ⟨c0, c1, c2, c3, c4⟩ := T2.out.five
              have k0 := D2.out.at_ 0
              have k1 := D2.out.at_ 1
              simp only [List.getElem?_toArray, List.getElem?_cons_zero, List.getElem?_cons_succ] at k0 k1
              go_wp2_with fail
              refine (M.out _).mono ?_
              rintro e w3 ⟨rfl, b3⟩
              obtain ⟨T3, D3, O3, B3⟩ := K2.out w3 b3
              clear b3 c0 c1 c2 c3 c4 k0 k1 T2 D2 B2 K2 M
              obtain ⟨c0, c1, c2, c3, c4⟩ := T3.five
              obtain ⟨d0, d1, d2, d3, d4⟩ := O3.zero
              have f0 := T3.free5 0; have f1 := T3.free5 1; have f2 := T3.free5 2; have f3 := T3.free5 3; have f4 := T3.free5 4
              have T4 := Lib.hid (T3.put z)
              have D4 := Lib.hid (Whole.far D3 (putStd_only w3 w.heap.size z) (by omega))
              have B4 := Lib.hid (below_put B3 (Nat.le_refl _) z)
              have BX := Lib.hid B3
              clear T3 D3 O3 B3
              cases hq : Sn.eqL z u with
              | true =>
                have hZ := Lib.hid (hS2.out (QT.out hq))
                simp only [hq] at QE
                clear hq QT hS2 hR T4 D4 B4
                go_wp2_with fail
                (try rw [Exit.noGoto_ret])
                go_ret2
                exact ⟨by rw [hZ.out]; rfl, BX.out⟩
              | false =>
                simp only [hq] at QE
                clear hq QT hS2 BX
                go_wp2_with fail
                go_roundg gh
                case measure => omega
                case rel => exact ⟨k + 1, by omega, by go_num, hR, Lib.hid (by rw [EZ.out]; exact T4.out), D4, B4⟩
          · have hkn : k = 201 := by omega
            subst hkn
            have hR := Lib.hid (Fo.yu_end hz.out)
            clear hz hT hD
            go_wp2_with fail
            (try rw [Exit.noGoto_ret])
            go_ret2
            exact ⟨by rw [hR.out]; rfl, hb.out⟩)
end Go.Proofs.Ytecobplmkdlagaa

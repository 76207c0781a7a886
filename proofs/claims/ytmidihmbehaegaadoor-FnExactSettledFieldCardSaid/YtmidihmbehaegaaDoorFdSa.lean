/-
  When a field does not change any more (chapter 6), by the program. Its condition: impl.leeWays holds what the program's text lays.
-/
import Derived.Test.YtmidihmbehaegaaDoorFdW
import Derived.Test.YtmidihmbehaegaaDoorFdZ
namespace Go.Proofs.YtmidihmbehaegaaDoor
open Go.RowKit Go.Shelf Go.Deep Go.Maps Go.WideShapes
set_option linter.unusedVariables false
set_option maxRecDepth 100000

namespace Fw
/-- what SettledField answers -/
def sfA (r c : Int) (zs : List Int) (s l : Int) : Int × Int := if ok r c zs = false then (0, 1) else if (okS s && okM l) = false then (0, 2) else sf r c s l 101 0 zs
end Fw
def P2 (p : Int × Int) (e : Ending) : Prop := e = .returned (.tuple #[.int .i64 p.1, .int .i64 p.2])
theorem P2.mk {p : Int × Int} {a b : Int} (h : p = (a, b)) : P2 p (.returned (.tuple #[.int .i64 a, .int .i64 b])) := by rw [h]; rfl
theorem sfA_1 {r c s l : Int} {zs : List Int} (h : Fw.ok r c zs = false) : P2 (Fw.sfA r c zs s l) (.returned (.tuple #[.int .i64 0, .int .i64 1])) := P2.mk (by unfold Fw.sfA; rw [if_pos h])
theorem sfA_2 {r c s l : Int} {zs : List Int} (h : Fw.ok r c zs = true) (h2 : (Fw.okS s && Fw.okM l) = false) : P2 (Fw.sfA r c zs s l) (.returned (.tuple #[.int .i64 0, .int .i64 2])) := P2.mk (by unfold Fw.sfA; rw [if_neg (by rw [h]; decide), if_pos h2])
theorem sfA_3 {r c s l : Int} {zs : List Int} (h : Fw.ok r c zs = true) (h2 : (Fw.okS s && Fw.okM l) = true) : Fw.sfA r c zs s l = Fw.sf r c s l 101 0 zs := by unfold Fw.sfA; rw [if_neg (by rw [h]; decide), if_neg (by rw [h2]; decide)]
theorem sf_in {r c s l : Int} {ys : List Int} {k : Nat} (h : k < 101) (h1 : Fw.okMs (Fw.st r c 0 s ys) = true) (h2 : Fw.mc ys (Fw.st r c 0 s ys) ys.length ≤ l) : Fw.sf r c s l (101 - k) k ys = ((k : Int), 0) := by
  rw [show 101 - k = (100 - k) + 1 by omega]; unfold Fw.sf; rw [if_pos h1, if_pos h2]
theorem sf_on {r c s l : Int} {ys : List Int} {k : Nat} (h : k < 101) (h1 : Fw.okMs (Fw.st r c 0 s ys) = true) (h2 : ¬ Fw.mc ys (Fw.st r c 0 s ys) ys.length ≤ l) : Fw.sf r c s l (101 - k) k ys = Fw.sf r c s l (101 - (k + 1)) ((k + 1 : Nat) : Int) (Fw.st r c 0 s ys) := by
  rw [show 101 - k = (100 - k) + 1 by omega, show 101 - (k + 1) = 100 - k by omega]; rw [show Fw.sf r c s l (100 - k + 1) k ys = (if Fw.okMs (Fw.st r c 0 s ys) = true then (if Fw.mc ys (Fw.st r c 0 s ys) ys.length ≤ l then ((k : Int), 0) else Fw.sf r c s l (100 - k) (k + 1) (Fw.st r c 0 s ys)) else (0, 6)) from rfl]; rw [if_pos h1, if_neg h2]; rfl
theorem sf_out {r c s l : Int} {ys : List Int} {k : Nat} (h : k < 101) (h1 : Fw.okMs (Fw.st r c 0 s ys) = false) : Fw.sf r c s l (101 - k) k ys = (0, 6) := by
  rw [show 101 - k = (100 - k) + 1 by omega]; unfold Fw.sf; rw [if_neg (by rw [h1]; decide)]
set_option maxHeartbeats 12800000 in
theorem implSettledField_any (w : World) (r c : Int) (v : Value) (zs : List Int) (s l : Int) (ho : IAt w v zs) (hl : zs.length ≤ 1048576) (hw : WaysAt w) :
    Calls Tryd.prog 29 #[.agg #[.int .i64 r, .int .i64 c, v], .int .i64 s, .int .i64 l] w fun e w' => P2 (Fw.sfA r c zs s l) e ∧ Below w.heap.size w w' := by
  have HB := Lib.hid (boxF_below w r c v 26)
  have CS := Lib.hid (fun W => isShare_any s W)
  have CM := Lib.hid (fun W => isDrift_any l W)
  have CF := Lib.hid (fun b W (h : Below (boxF w r c v 26).heap.size (boxF w r c v 26) W) => fieldCode_any W r c v zs b ((ho.sl.below HB.out).below h) hl)
  have HO := Lib.hid ho
  have HW := Lib.hid hw
  have K0 := Lib.hid (fun W (h : Below (boxF w r c v 26).heap.size (boxF w r c v 26) W) => (boxF_kept h).three)
  obtain ⟨x0, x1, x2⟩ := K0.out _ (Below.refl _ _)
  clear ho hw
  cases h2 : Fw.okS s with
  | false =>
    have CF0 := Lib.hid (CF.out false)
    rw [h2] at CS
    cases h1 : Fw.ok r c zs with
    | false =>
      have hr := Lib.hid (sfA_1 (s := s) (l := l) h1)
      rw [h1, show Fw.cd false false = 1 from rfl] at CF0
      clear h1 h2
      go_enter Tryd.func29, Tryd.ntmps29
      go_wp2_with fail
      first | (go_region_with (first | (go_at_call 39; refine (CS.out _).mono ?_; rintro e w' ⟨rfl, rfl⟩) | (go_at_call 37; refine (CF0.out _ (bdr1 _)).mono ?_; rintro e w1 ⟨rfl, b1⟩; have b10 := bt (bdr1 _) b1; obtain ⟨y0, y1, y2⟩ := K0.out w1 b10))) | fail "region"
      all_goals (
        go_wp2_with fail
        exact bodyPost_ret (v := .tuple #[.int .i64 0, .int .i64 1]) (by simp [results, Tryd.results29, go_sem]) rfl ⟨hr.out, bt HB.out b10⟩)
    | true =>
      have hr := Lib.hid (sfA_2 (l := l) h1 (and_ft (Fw.okM l) h2))
      rw [h1, show Fw.cd true false = 2 from rfl] at CF0
      clear h1 h2
      go_enter Tryd.func29, Tryd.ntmps29
      go_wp2_with fail
      first | (go_region_with (first | (go_at_call 39; refine (CS.out _).mono ?_; rintro e w' ⟨rfl, rfl⟩) | (go_at_call 37; refine (CF0.out _ (bdr1 _)).mono ?_; rintro e w1 ⟨rfl, b1⟩; have b10 := bt (bdr1 _) b1; obtain ⟨y0, y1, y2⟩ := K0.out w1 b10))) | fail "region"
      all_goals (
        go_wp2_with fail
        exact bodyPost_ret (v := .tuple #[.int .i64 0, .int .i64 2]) (by simp [results, Tryd.results29, go_sem]) rfl ⟨hr.out, bt HB.out b10⟩)
  | true =>
    rw [h2] at CS
    cases h3 : Fw.okM l with
    | false =>
      have CF0 := Lib.hid (CF.out false)
      rw [h3] at CM
      cases h1 : Fw.ok r c zs with
      | false =>
        have hr := Lib.hid (sfA_1 (s := s) (l := l) h1)
        rw [h1, show Fw.cd false false = 1 from rfl] at CF0
        clear h1 h2 h3
        go_enter Tryd.func29, Tryd.ntmps29
        go_wp2_with fail
        go_region_held3 (fun w' => w'.cell? ⟨w.heap.size, 0, none⟩ = some (.int .i64 r) ∧ w'.cell? ⟨w.heap.size, 1, none⟩ = some (.int .i64 c) ∧ w'.cell? ⟨w.heap.size, 2, none⟩ = some v) (go_keep)
          (first | (go_at_call 39; refine (CS.out _).mono ?_; rintro e w' ⟨rfl, rfl⟩) | (go_at_call 43; refine (CM.out _).mono ?_; rintro e w' ⟨rfl, rfl⟩) | (go_at_call 37; refine (CF0.out _ (bdr1 _)).mono ?_; rintro e w1 ⟨rfl, b1⟩; have b10 := bt (bdr1 _) b1; obtain ⟨y0, y1, y2⟩ := K0.out w1 b10))
        all_goals (
          go_wp2_with fail
          exact bodyPost_ret (v := .tuple #[.int .i64 0, .int .i64 1]) (by simp [results, Tryd.results29, go_sem]) rfl ⟨hr.out, bt HB.out b10⟩)
      | true =>
        have hr := Lib.hid (sfA_2 (l := l) h1 (and_ff (Fw.okS s) h3))
        rw [h1, show Fw.cd true false = 2 from rfl] at CF0
        clear h1 h2 h3
        go_enter Tryd.func29, Tryd.ntmps29
        go_wp2_with fail
        go_region_held3 (fun w' => w'.cell? ⟨w.heap.size, 0, none⟩ = some (.int .i64 r) ∧ w'.cell? ⟨w.heap.size, 1, none⟩ = some (.int .i64 c) ∧ w'.cell? ⟨w.heap.size, 2, none⟩ = some v) (go_keep)
          (first | (go_at_call 39; refine (CS.out _).mono ?_; rintro e w' ⟨rfl, rfl⟩) | (go_at_call 43; refine (CM.out _).mono ?_; rintro e w' ⟨rfl, rfl⟩) | (go_at_call 37; refine (CF0.out _ (bdr1 _)).mono ?_; rintro e w1 ⟨rfl, b1⟩; have b10 := bt (bdr1 _) b1; obtain ⟨y0, y1, y2⟩ := K0.out w1 b10))
        all_goals (
          go_wp2_with fail
          exact bodyPost_ret (v := .tuple #[.int .i64 0, .int .i64 2]) (by simp [results, Tryd.results29, go_sem]) rfl ⟨hr.out, bt HB.out b10⟩)
    | true =>
      have CF0 := Lib.hid (CF.out true)
      have hb2 : Hid ((Fw.okS s && Fw.okM l) = true) := Lib.hid (by rw [h2, h3]; rfl)
      obtain ⟨s1, s2⟩ := (okS_iff s).1 h2
      obtain ⟨l1, l2⟩ := (Fw.okM_iff l).1 h3
      rw [h3] at CM
      cases h1 : Fw.ok r c zs with
      | false =>
        have hr := Lib.hid (sfA_1 (s := s) (l := l) h1)
        rw [h1, show Fw.cd false true = 1 from rfl] at CF0
        clear h1 h2 h3
        go_enter Tryd.func29, Tryd.ntmps29
        go_wp2_with fail
        go_region_held3 (fun w' => w'.cell? ⟨w.heap.size, 0, none⟩ = some (.int .i64 r) ∧ w'.cell? ⟨w.heap.size, 1, none⟩ = some (.int .i64 c) ∧ w'.cell? ⟨w.heap.size, 2, none⟩ = some v) (go_keep)
          (first | (go_at_call 39; refine (CS.out _).mono ?_; rintro e w' ⟨rfl, rfl⟩) | (go_at_call 43; refine (CM.out _).mono ?_; rintro e w' ⟨rfl, rfl⟩) | (go_at_call 37; refine (CF0.out _ (bdr1 _)).mono ?_; rintro e w1 ⟨rfl, b1⟩; have b10 := bt (bdr1 _) b1; obtain ⟨y0, y1, y2⟩ := K0.out w1 b10))
        all_goals (
          go_wp2_with fail
          exact bodyPost_ret (v := .tuple #[.int .i64 0, .int .i64 1]) (by simp [results, Tryd.results29, go_sem]) rfl ⟨hr.out, bt HB.out b10⟩)
      | true =>
        have H1 := Lib.hid h1
        have hfit := ((Fw.ok_iff _ _ _).1 h1).1
        have hms := Lib.hid ((Fw.ok_iff _ _ _).1 h1).2
        have hl64 := (Fw.fits_len hfit).2
        rw [h1, show Fw.cd true true = 0 from rfl] at CF0
        clear h1 h2 h3 hfit
        go_enter Tryd.func29, Tryd.ntmps29
        go_wp2_with fail
        go_region_held3 (fun w' => w'.cell? ⟨w.heap.size, 0, none⟩ = some (.int .i64 r) ∧ w'.cell? ⟨w.heap.size, 1, none⟩ = some (.int .i64 c) ∧ w'.cell? ⟨w.heap.size, 2, none⟩ = some v) (go_keep)
          (first | (go_at_call 39; refine (CS.out _).mono ?_; rintro e w' ⟨rfl, rfl⟩) | (go_at_call 43; refine (CM.out _).mono ?_; rintro e w' ⟨rfl, rfl⟩) | (go_at_call 37; refine (CF0.out _ (bdr1 _)).mono ?_; rintro e w1 ⟨rfl, b1⟩; have b10 := bt (bdr1 _) b1; obtain ⟨y0, y1, y2⟩ := K0.out w1 b10))
        have KX := Lib.hid (boxF_kept b10)
        have B1 := Lib.hid (bt HB.out b10)
        have HW1 := Lib.hid (HW.out.below B1.out)
        have CN := Lib.hid (fun W (h : Below w1.heap.size w1 W) => newDrifting_any W r c v zs ((HO.out.all B1.out).all h) hl64)
        clear CF CF0 CM CS K0 b1 b10 x0 x1 x2 HB HW
        try clear y0 y1 y2
        obtain ⟨y0, y1, y2⟩ := KX.out.three
        go_wp2_with fail
        refine (CN.out _ (Below.refl _ _)).mono ?_
        rintro e w2 ⟨p, A, ca, X, cb, M, rfl, hd, bN0⟩
        have HD := Lib.hid hd
        have BN := Lib.hid bN0
        have HF := Lib.hid (Fw.OF.none hms.out)
        have hgB := World.block_lt_of_cell? w1 _ HW1.out.eight.1.1
        simp only at hgB
        have HGB := Lib.hid hgB
        clear hd bN0 CN KX HO y0 y1 y2 hms hgB
        have hA := Lib.hid (sfA_3 (s := s) (l := l) H1.out hb2.out)
        go_wp2_with fail
        go_loopw [10, 24] (fun _ i wr => ∃ (k A ca X cb q : Nat) (ys bs : List Int) (m : DataW Unit), k ≤ 101 ∧ i = .int .i64 k ∧ q ≤ 128 * k ∧ Hid (DR w1.heap.size wr p r c zs.length A ca X cb M ys bs m q) ∧ Hid (Fw.OF m ys) ∧ Hid (Fw.ok r c ys = true) ∧ Hid (Below w1.heap.size w1 wr) ∧ Hid (Fw.sfA r c zs s l = Fw.sf r c s l (101 - k) k ys)) (fun _ i _ => 101 - (intOf i).toNat)
        case atStart => exact ⟨0, A, ca, X, cb, 0, zs, _, _, Nat.zero_le _, rfl, Nat.zero_le _, HD, HF, H1, BN, hA⟩
        case round =>
          obtain ⟨k, A, ca, X, cb, q, ys, bs, m, hk, rfl, hq, hd, ho, hok, hb, hrun⟩ := hrel
          by_cases hlt : k < 101
          · have hltz : (k : Int) < 101 := by omega
            have CT := Lib.hid (step_any w1.heap.size wr p r c zs.length A ca X cb M ys bs m q 0 s hd.out (HW1.out.belowB hb.out HGB.out) HGB.out hok.out ho.out (by omega) (by omega) (by omega) s1 s2)
            unfold ST at CT
            have hst := Lib.hid (fun (h : Fw.okMs (Fw.st r c 0 s ys) = true) (h2 : Fw.mc ys (Fw.st r c 0 s ys) ys.length ≤ l) => sf_in (r := r) (c := c) (s := s) (l := l) (ys := ys) hlt h h2)
            have hso := Lib.hid (fun (h : Fw.okMs (Fw.st r c 0 s ys) = true) (h2 : ¬ Fw.mc ys (Fw.st r c 0 s ys) ys.length ≤ l) => sf_on (r := r) (c := c) (s := s) (l := l) (ys := ys) hlt h h2)
            have hsf := Lib.hid (fun (h : Fw.okMs (Fw.st r c 0 s ys) = false) => sf_out (r := r) (c := c) (s := s) (l := l) (ys := ys) hlt h)
            have hok2 := Lib.hid (fun (h : Fw.okMs (Fw.st r c 0 s ys) = true) => Fw.st_ok (d := 0) (s := s) hok.out h)
            have hlen := Lib.hid (Fw.st_length r c 0 s ys)
            have hy64 := Lib.hid (Fw.fits_len ((Fw.ok_iff _ _ _).1 hok.out).1).2
            have hyms := Lib.hid ((Fw.ok_iff _ _ _).1 hok.out).2
            generalize Fw.st r c 0 s ys = zt at *
            cases hm : Fw.okMs zt with
            | true =>
              have HO2 := Lib.hid (hok2.out hm)
              have hst1 := Lib.hid (hst.out hm)
              have hso1 := Lib.hid (hso.out hm)
              have hzms := Lib.hid hm
              rw [hm] at CT
              clear hm hst hso hsf hok2 hok hd ho
              go_wp2_with fail
              refine CT.out.mono ?_
              rintro e w3 ⟨m3, rfl, hd3, ho3, hb3⟩
              have HD3 := Lib.hid hd3
              have HF3 := Lib.hid ho3
              have HB3 := Lib.hid (hb.out.trans hb3)
              have CG := Lib.hid (greatest_any w1.heap.size w3 p r c zs.length X cb A ca M zt ys m3 (q + 128) hd3 (by rw [hlen.out]; exact hy64.out) hzms.out hyms.out)
              clear hd3 ho3 hb3 hb hlen hy64 hyms hzms
              generalize Fw.mc ys zt ys.length = g at *
              go_wp2_with fail
              refine CG.out.mono ?_
              rintro e w4 ⟨rfl, b4⟩
              have HD4 := Lib.hid (HD3.out.all b4)
              have HB4 := Lib.hid (bt HB3.out b4)
              clear b4 CG HD3 HB3
              by_cases hg : g ≤ l
              · have hr := Lib.hid (P2.mk (hrun.out.trans (hst1.out (by omega))))
                go_wp2_with fail
                exact bodyPost_ret (v := .tuple #[.int .i64 k, .int .i64 0]) (by simp [results, Tryd.results29, go_sem]) rfl ⟨hr.out, bt B1.out HB4.out⟩
              · have HR2 := Lib.hid (hrun.out.trans (hso1.out (by omega)))
                go_wp2_with fail
                exact ⟨⟨k + 1, X, cb, A, ca, q + 128, zt, ys, m3, by omega, by go_num, by omega, HD4, HF3, HO2, HB4, HR2⟩, by simp only [intOf]; omega⟩
            | false =>
              have hr := Lib.hid (P2.mk (hrun.out.trans (hsf.out hm)))
              rw [hm] at CT
              clear hm hst hso hsf hok2 hrun hok hd ho
              go_wp2_with fail
              refine CT.out.mono ?_
              rintro e w3 ⟨m3, rfl, -, -, hb3⟩
              have HB3 := Lib.hid (hb.out.trans hb3)
              clear hb3 hb
              go_wp2_with fail
              exact bodyPost_ret (v := .tuple #[.int .i64 0, .int .i64 6]) (by simp [results, Tryd.results29, go_sem]) rfl ⟨hr.out, bt B1.out HB3.out⟩
          · have hltz : ¬ (k : Int) < 101 := by omega
            have hr := Lib.hid (P2.mk (a := 0) (b := 3) (hrun.out.trans (by rw [show 101 - k = 0 by omega]; rfl)))
            go_wp2_with fail
            exact bodyPost_ret (v := .tuple #[.int .i64 0, .int .i64 3]) (by simp [results, Tryd.results29, go_sem]) rfl ⟨hr.out, bt B1.out hb.out⟩
end Go.Proofs.YtmidihmbehaegaaDoor

/-
  A step of drift, by the program (chapter 6). Its condition: impl.leeWays holds what the program's text lays.
-/
import Derived.Test.YtmidihmbehaegaaDoorFdJ
import Derived.Test.YtmidihmbehaegaaDoorCopy
import Derived.RegionTactic
import Derived.BigRegion
import Derived.StillTailTactics
namespace Go.Proofs.YtmidihmbehaegaaDoor
open Go.RowKit Go.Shelf Go.Deep Go.Maps Go.WideShapes
set_option linter.unusedVariables false
set_option maxRecDepth 100000

section
variable {B : Nat} {w w' : World} {p : Nat} {r c : Int} {n A ca X cb M : Nat} {ys bs : List Int} {m : DataW Unit} {q : Nat}
theorem info1 : (Tryd.prog.info? 2).map (·.size) = some 1 := by kernel_rfl
theorem DR.swap (h : DR B w p r c n A ca X cb M ys bs m q) : DR B ((w.setCell ⟨p, 3, none⟩ (.slice (some ⟨A, 0, none⟩) n ca)).setCell ⟨p, 2, none⟩ (.slice (some ⟨X, 0, none⟩) n cb)) p r c n X cb A ca M bs ys m q := by
  have h1 := only_setCell (a := w) (w := w) (g := p) (p := ⟨p, 3, none⟩) (World.grownBy.refl _ _) rfl (.slice (some ⟨A, 0, none⟩) n ca)
  have h2 := only_setCell (p := ⟨p, 2, none⟩) h1 rfl (.slice (some ⟨X, 0, none⟩) n cb)
  have hb := (h.box.put 3 (.slice (some ⟨A, 0, none⟩) n ca)).put 2 (.slice (some ⟨X, 0, none⟩) n cb)
  exact ⟨by simpa using hb, Own.other h.old h2 (fun e => h.pX e.symm), Own.other h.row h2 (fun e => h.pA e.symm), World.ownsMap.setCell (World.ownsMap.setCell h.map (fun e => h.pM e.symm) _) (fun e => h.pM e.symm) _, h.pB, h.XB, h.AB, h.MB, h.pX, h.pA, fun e => h.AX e.symm, h.pM, h.XM, h.AM⟩
theorem DR.copied (h : DR B w p r c n X cb A ca M bs ys m q) (hg : w.grownBy w' (some X)) (hm : w'.ownsRow B 2 1 (.slice (some ⟨X, 0, none⟩) n cb) n (iv ys)) (hn : n = ys.length) : DR B w' p r c n X cb A ca M ys ys m q :=
  ⟨h.box.far hg h.pA, by unfold Own; rw [← hn]; exact hm, Own.other h.old hg (fun e => h.AX e.symm), h.map.kept hg (fun e => h.AM (by simpa using e.symm)), h.pB, h.AB, h.XB, h.MB, h.pA, h.pX, h.AX, h.pM, h.AM, h.XM⟩
end
theorem WaysAt.belowB {B : Nat} {w w1 : World} (h : WaysAt w) (hb : Below B w w1) (hg : 0 < B) : WaysAt w1 := fun i r hr j z hz => (hb.cell (p := ⟨0, i * 2 + j, none⟩) hg).trans (h i r hr j z hz)
theorem size_ok {m : DataW Unit} {ys : List Int} (h : Fw.OF m ys) : (((Maps.size m : Nat) : Int) == 0) = Fw.okMs ys := by
  cases ho : Fw.okMs ys with
  | true => rw [h.size.2 ho]; rfl
  | false =>
    rw [beq_eq_false_iff_ne]; intro e
    have := h.size.1 (by omega)
    rw [ho] at this; cases this
/-- what a step leaves -/
def ST (B : Nat) (w : World) (p : Nat) (r c : Int) (n A ca X cb M : Nat) (ys : List Int) (q : Nat) (d s : Int) (e : Ending) (w' : World) : Prop :=
  ∃ m', e = .returned (.bool (Fw.okMs (Fw.st r c d s ys))) ∧ DR B w' p r c n X cb A ca M (Fw.st r c d s ys) ys m' (q + 128) ∧ Fw.OF m' (Fw.st r c d s ys) ∧ Below B w w'
set_option maxHeartbeats 6400000 in
theorem step_any (B : Nat) (w : World) (p : Nat) (r c : Int) (n A ca X cb M : Nat) (ys bs : List Int) (m : DataW Unit) (q : Nat) (d s : Int) (h : DR B w p r c n A ca X cb M ys bs m q) (hw : WaysAt w) (hgB : 0 < B) (hok : Fw.ok r c ys = true) (hof : Fw.OF m ys) (hq : q ≤ 100000) (d1 : 0 ≤ d) (d2 : d ≤ 3) (s1 : 0 ≤ s) (s2 : s ≤ 1000) :
    Calls Tryd.prog 41 #[.pointer (some ⟨p, 0, none⟩), .int .i64 d, .int .i64 s] w (ST B w p r c n A ca X cb M ys q d s) := by
  obtain ⟨hfit, hms⟩ := (Fw.ok_iff _ _ _).1 hok
  obtain ⟨⟨r1, r2⟩, ⟨c1, c2⟩, hlen⟩ := (Fw.fits_iff _ _ _).1 hfit
  have hl64 := (Fw.fits_len hfit).2
  have hl1 := (Fw.fits_len hfit).1
  have hnl := own_len h.row
  subst hnl
  have HM := Lib.hid hms
  have HL := Lib.hid hlen
  have HS := Lib.hid h.swap
  obtain ⟨x0, x1, x2, x3, x4⟩ := h.five
  have f2 := h.box.free 2
  have f3 := h.box.free 3
  have HW := Lib.hid hw
  have HOF := Lib.hid hof
  have hpB := h.pB
  have hlt := h.box.lt
  clear hfit hms hlen hok hw hof h
  go_enter Tryd.func41, Tryd.ntmps41
  go_wp2_with fail
  go_region
  have HS1 := Lib.hid (HS.out.all (bdr1 _))
  have HBS : Hid (Below B w ((w.setCell ⟨p, 3, none⟩ (.slice (some ⟨A, 0, none⟩) ys.length ca)).setCell ⟨p, 2, none⟩ (.slice (some ⟨X, 0, none⟩) ys.length cb)).drew) := Lib.hid (below_drewN (((Below.refl _ _).setCell (p := ⟨p, 3, none⟩) hpB _).setCell (p := ⟨p, 2, none⟩) hpB _) 1)
  have hBw : B ≤ w.heap.size := by omega
  clear HS x0 x1 x2 x3 x4 f2 f3
  generalize ((w.setCell ⟨p, 3, none⟩ (.slice (some ⟨A, 0, none⟩) ys.length ca)).setCell ⟨p, 2, none⟩ (.slice (some ⟨X, 0, none⟩) ys.length cb)).drew = w1 at HS1 HBS ⊢
  obtain ⟨x0, x1, x2, x3, x4⟩ := HS1.out.five
  have HS2 := Lib.hid (HS1.out.all (bdr1 _))
  have HR : Hid (w1.drew.ownsRow B 2 1 (.slice (some ⟨X, 0, none⟩) ys.length cb) ys.length (iv bs)) := Lib.hid (by have := HS2.out.row; have hb := own_len this; unfold Own at this; rwa [← hb] at this)
  have HC : Hid (∀ j v, (iv ys)[j]? = some v → w1.drew.cell? ((⟨A, 0, none⟩ : Addr).add j) = some v) := Lib.hid (fun j v hj => World.ownsRow.cells HS2.out.old (g := A) rfl j v hj)
  go_wp2_with fail
  go_still_tail 9, (by kernel_rfl)
  refine wpList_copy_rows rfl _ _ _ _ rfl 2 1 Tryd.underlying22 info1 B X ys.length cb _ HR.out _ _ rfl rfl (iv ys) (by rw [iv_length, Nat.mul_one]) (fun _ => ⟨_, rfl, HC.out⟩) (one_iv _) ?_
  intro w2 hrow hgr
  have HD := Lib.hid (HS2.out.copied hgr.out hrow.out rfl)
  have HB2 : Hid (Below B w w2) := Lib.hid ((HBS.out.trans ((bdr1 w1).mono (by have := HBS.out.size; omega))).grown hgr.out (by have := HBS.out.size; simpa using (show B ≤ w1.heap.size by omega)) (fun j hj => by simp only [Option.some.injEq] at hj; have := HS2.out.AB; omega))
  clear hrow hgr HR HC HS1 HS2 HBS x0 x1 x2 x3 x4
  obtain ⟨x0, x1, x2, x3, x4⟩ := HD.out.five
  go_wp2_with fail
  clear x0 x1 x2 x3 x4
  go_loopw [7, 8, 9, 10, 11, 12, 44] (fun _ _ _ _ _ _ i wr => ∃ (k : Nat) (m' : DataW Unit), k ≤ ys.length ∧ i = .int .i64 k ∧ Hid (DR B wr p r c ys.length X cb A ca M (Fw.stp r c d s ys k) ys m' (q + 2 * k)) ∧ Hid (Fw.OF m' (Fw.stp r c d s ys k)) ∧ Hid (Below B w wr)) (fun _ _ _ _ _ _ i _ => ys.length - (intOf i).toNat)
  case atStart => exact ⟨0, m, Nat.zero_le _, rfl, HD, HOF, HB2⟩
  case round =>
    obtain ⟨k, m1, hk, rfl, hd, ho, hb⟩ := hrel
    by_cases hlt : k < ys.length
    · have hltz : (k : Int) < (ys.length : Int) := by omega
      have hkr : (k : Int) < r * c := by rw [← HL.out]; exact hltz
      obtain ⟨x0, x1, x2, x3, x4⟩ := hd.out.five
      have l1 := own_atD hd.out.old hlt
      have CL := Lib.hid (leeOf_any wr r c (.slice (some ⟨X, 0, none⟩) ys.length cb) k d (HW.out.belowB hb.out hgB) r1 r2 c1 c2 hkr d1 d2)
      obtain ⟨n0, n1⟩ := Fw.nx_bd r c k d c1
      have hne := Fw.nx_ne c1 (Int.natCast_nonneg k) hkr d1 d2
      have hmx : max 0 (r * c) = r * c := by have := Fw.prod_le r1 r2 c1 c2; omega
      have hBr : B ≤ wr.heap.size := by have := hb.out.size; omega
      by_cases hnx : Fw.nx r c k d < 0
      · have e1 : leV (Fw.nx r c k d) = 0 := by unfold leV; rw [if_pos hnx]
        have e2 : leB (Fw.nx r c k d) = false := by unfold leB; rw [decide_eq_true hnx]; rfl
        rw [e1, e2] at CL
        have HN := Lib.hid (fun W (h : Below wr.heap.size wr W) => hd.out.all h)
        have HO2 : Hid (Fw.OF m1 (Fw.stp r c d s ys (k + 1))) := Lib.hid (by rw [Fw.stp_no hnx]; exact ho.out)
        have hst := Lib.hid (Fw.stp_no (s := s) (zs := ys) hnx)
        have HBW := Lib.hid (fun W (h : Below wr.heap.size wr W) => hb.out.trans (h.mono hBr))
        clear e1 e2 hne n0 n1 hmx hkr hnx hd ho hb
        generalize ys.getD k 0 = z at *
        go_wp2_with fail
        refine CL.out.mono ?_
        rintro e w3 ⟨rfl, b3⟩
        have HN3 : Hid (DR B w3 p r c ys.length X cb A ca M (Fw.stp r c d s ys (k + 1)) ys m1 (q + 2 * (k + 1))) := Lib.hid (by
          have h3 := HN.out w3 b3
          rw [hst.out]
          exact ⟨h3.box, h3.row, h3.old, h3.map.mono (by omega), h3.pB, h3.AB, h3.XB, h3.MB, h3.pA, h3.pX, h3.AX, h3.pM, h3.AM, h3.XM⟩)
        have HB3 := Lib.hid (HBW.out w3 b3)
        clear b3 HN HBW x0 x1 x2 x3 x4 l1
        go_wp2_with fail
        exact ⟨⟨k + 1, m1, by omega, by go_num, HN3, HO2, HB3⟩, by simp only [intOf]; omega⟩
      · obtain ⟨t, ht⟩ : ∃ t : Nat, Fw.nx r c k d = (t : Int) := ⟨(Fw.nx r c k d).toNat, by omega⟩
        have htl : t < ys.length := by have := HL.out; omega
        have hkt : k ≠ t := by intro e; apply hne; rw [ht, e]
        have e1 : leV (Fw.nx r c k d) = (t : Int) := by unfold leV; rw [if_neg hnx, ht]
        have e2 : leB (Fw.nx r c k d) = true := by unfold leB; rw [decide_eq_false hnx]; rfl
        rw [e1, e2] at CL
        have a1 := Fw.stp_abs (r := r) (c := c) (d := d) s1 s2 HM.out k k
        have a2 := Fw.stp_abs (r := r) (c := c) (d := d) s1 s2 HM.out k t
        obtain ⟨z0, z1⟩ := Fw.okMs_getD HM.out k
        obtain ⟨g0, g1, g2, g3⟩ := Fw.gv_bd s1 s2 z0 z1
        have hsl := Fw.stp_length r c d s ys k
        have hst := Lib.hid (Fw.stp_yes (s := s) (zs := ys) hnx)
        have CD := Lib.hid (fun W => implDivRound_any (ys.getD k 0 * s) 1000 W)
        rw [show Ar.dR (ys.getD k 0 * s) 1000 = Fw.gv s (ys.getD k 0) by unfold Ar.dR Fw.gv; rw [if_neg (by omega)]] at CD
        have C1 := Lib.hid (fun W (h : Below wr.heap.size wr W) => change_any B W p r c ys.length X cb A ca M _ ys m1 (q + 2 * k) k (-(Fw.gv s (ys.getD k 0))) (hd.out.all h) (by omega) (by omega) (by omega) (by omega) (by omega))
        have hat := Fw.ad_ne (ys := Fw.stp r c d s ys k) (-(Fw.gv s (ys.getD k 0))) hkt
        have C2 := Lib.hid (fun W m2 (h : DR B W p r c ys.length X cb A ca M (Fw.ad (Fw.stp r c d s ys k) k (-(Fw.gv s (ys.getD k 0)))) ys m2 (q + 2 * k + 1)) => change_any B W p r c ys.length X cb A ca M _ ys m2 (q + 2 * k + 1) t (Fw.gv s (ys.getD k 0)) h (by rw [Fw.ad_length]; omega) (by rw [Fw.ad_length]; omega) (by rw [hat]; omega) (by rw [hat]; omega) (by omega))
        have HBW := Lib.hid (fun W (h : Below wr.heap.size wr W) => hb.out.trans (h.mono hBr))
        have hto : Hid ((Fw.nx r c k d).toNat = t) := Lib.hid (by rw [ht]; rfl)
        clear e1 e2 hne n0 n1 hmx hkr hnx hd hb hat hsl ht a1 a2
        generalize ys.getD k 0 = z at *
        go_wp2_with fail
        refine CL.out.mono ?_
        rintro e w3 ⟨rfl, b3⟩
        have B3 := Lib.hid b3
        clear b3 x0 x1 x2 x3 x4 l1
        go_wp2_with fail
        with_reducible refine (CD.out _).mono ?_
        rintro e w4 ⟨rfl, rfl⟩
        go_wp2_with fail
        refine (C1.out _ B3.out).mono ?_
        rintro e w5 ⟨m2, rfl, D5, O5, b5⟩
        have HD5 := Lib.hid D5
        have HO5 := Lib.hid (O5 ho.out)
        have HB5 := Lib.hid ((HBW.out _ B3.out).trans b5)
        clear D5 O5 b5
        go_wp2_with fail
        refine (C2.out _ m2 HD5.out).mono ?_
        rintro e w6 ⟨m3, rfl, D6, O6, b6⟩
        have HD6 : Hid (DR B w6 p r c ys.length X cb A ca M (Fw.stp r c d s ys (k + 1)) ys m3 (q + 2 * (k + 1))) := Lib.hid (by rw [hst.out, hto.out]; exact D6)
        have HO6 : Hid (Fw.OF m3 (Fw.stp r c d s ys (k + 1))) := Lib.hid (by rw [hst.out, hto.out]; exact O6 HO5.out)
        have HB6 := Lib.hid (HB5.out.trans b6)
        clear D6 O6 b6
        go_wp2_with fail
        exact ⟨⟨k + 1, m3, by omega, by go_num, HD6, HO6, HB6⟩, by simp only [intOf]; omega⟩
    · have hltz : ¬ (k : Int) < (ys.length : Int) := by omega
      have hkz : k = ys.length := by omega
      subst hkz
      obtain ⟨x0, x1, x2, x3, x4⟩ := hd.out.five
      have hsz := Lib.hid (size_ok ho.out)
      have HE : Hid (DR B wr p r c ys.length X cb A ca M (Fw.st r c d s ys) ys m1 (q + 128)) := Lib.hid ⟨hd.out.box, hd.out.row, hd.out.old, hd.out.map.mono (by omega), hd.out.pB, hd.out.AB, hd.out.XB, hd.out.MB, hd.out.pA, hd.out.pX, hd.out.AX, hd.out.pM, hd.out.AM, hd.out.XM⟩
      have HOE : Hid (Fw.OF m1 (Fw.st r c d s ys)) := ho
      go_wp2_with (at_len; refine wpList_len_own _ rfl _ 56 rfl 2 4 Tryd.underlying56 _ M (q + 128) m1 rfl HE.out.map ?_)
      go_ret
      exact ⟨m1, ret_bool hsz.out, HE.out, HOE.out, hb.out⟩
end Go.Proofs.YtmidihmbehaegaaDoor

/-
  The walk of the law FnMass and what it stands on: For every two slices of bytes (nil, shared and with spare room too) the law Mass returns true and writes nothing that was there. No other condition (beyond 2^20 bytes the law itself returns true).
-/
import Derived.Test.YtfbfdiejffjbmaaRows
import Derived.Test.YtfbfdiejffjbmaaDrQ
import Derived.Test.YtfbfdiejffjbmaaR8
import Derived.Test.YtfbfdiejffjbmaaHrG
import Derived.Test.YtfbfdiejffjbmaaHrP
import Derived.Test.YtfbfdiejffjbmaaSum3
import Derived.WalkKit
import Derived.WalkSpells
import Derived.WalkLawsBesides
import Derived.Outline
import Derived.IntWalk
import Derived.Lib.Hide
import Derived.ProofKit
import Derived.OpenShut
import Derived.ShutString
import Derived.ChangeOld
import Derived.ChangeVars
import Derived.Below
import Derived.WalkSmall
namespace Go.Proofs.Ytfbfdiejffjbmaa.fnMass
open Go.ChangeShapes Go.WideShapes Go.ChangeAt Go.RowKit
open Go.ChangeMaps (open_string shut_string)
set_option linter.unusedVariables false
def IsRow (k : IntKind) (w : World) (a : Option Addr) (len cap : Nat) (zs : List Int) : Prop :=
  (a = none ∧ len = 0 ∧ cap = 0 ∧ zs = []) ∨
  ∃ x, a = some x ∧ len ≤ cap ∧ cap ≤ maxLen ∧ zs.length = cap ∧ (∀ i, i < zs.length → w.cell? (x.add i) = some (.int k (zs.getD i 0))) ∧ ∀ n ∈ zs, (Lit.int k n).wf = true
set_option maxRecDepth 100000
set_option maxHeartbeats 24000000
theorem walk (a0 : Option Addr) (len0 cap0 : Nat) (z0 : List Int) (a1 : Option Addr) (len1 cap1 : Nat) (z1 : List Int) (w : World) (w0 : IsRow .u8 w a0 len0 cap0 z0) (w1 : IsRow .u8 w a1 len1 cap1 z1) :
    Calls Try.prog 7 #[.slice a0 len0 cap0, .slice a1 len1 cap1] w fun e w' => e = .returned (.bool true) ∧ Below w.heap.size w w' := by
  by_cases hb0 : len0 ≤ 1048576
  · by_cases hb1 : len1 ≤ 1048576
    · have V0 := Lib.hid (Bs.of_row w0)
      have V1 := Lib.hid (Bs.of_row w1)
      clear w0 w1
      go_enter Try.func7, Try.ntmps7
      go_wp2_with fail
      refine (r8Long_no w _ _ len0 len1 _ _ hb0 hb1).mono ?_
      rintro e w' ⟨rfl, rfl⟩
      go_wp2_with fail
      refine (r8Profile_any w _ len0 V0.out hb0).mono ?_
      rintro e v1 ⟨xs, q, cap, rfl, h5, hf, o1, b1⟩
      have B1 := Lib.hid b1
      have O1 := Lib.hid o1
      have hok : La.okP xs = true := (La.okP_iff xs).2 ⟨by omega, hf.out⟩
      clear b1 o1
      go_wp2_with fail
      refine (r8Wide_any v1.heap.size v1 _ len1 0 3000 ((V1.out.below B1.out).mono B1.out.size) (by omega) (by omega) (by omega) (by omega) hb1).mono ?_
      rintro e v2 ⟨p, rfl, p0, p1, b2⟩
      have B2 := Lib.hid (bt B1.out b2)
      have O2 := Lib.hid (O1.out.belowAll b2)
      clear b2 O1 V0 V1 B1
      obtain ⟨J, hJ⟩ : ∃ J, J = 1000 * p := ⟨_, rfl⟩
      have hj0 : 0 ≤ J := by omega
      have hj1 : J ≤ 100000000 := by omega
      have hW := La.ht_0 (f := La.wrm) hok (Ar.inB_t hj0 hj1)
      have hC := La.ht_0 (f := La.coo) hok (Ar.inB_t hj0 hj1)
      have HOW := (La.wrm_all hok hj0).1
      have HOC := (La.coo_all hok hj0).1
      have HOD := (La.drn_all hok).1
      obtain ⟨⟨wl0, wl1⟩, ws1, ws2, ws3, ws4⟩ := La.wrm_sum hj0 xs hf.out
      obtain ⟨⟨cl0, cl1⟩, cs1, cs2, cs3⟩ := La.coo_sum hj0 xs hf.out
      obtain ⟨⟨dr0, -⟩, ds1, ds2, ds3⟩ := La.drn_sum xs hf.out
      have hdl := La.top_len La.drn 0 xs
      obtain ⟨⟨xi0, xi1⟩, xa0, xa1⟩ := La.sums_bd hok
      obtain ⟨⟨wi0, wi1⟩, wa0, wa1⟩ := La.sums_bd HOW
      obtain ⟨⟨ci0, ci1⟩, ca0, ca1⟩ := La.sums_bd HOC
      obtain ⟨⟨di0, di1⟩, da0, da1⟩ := La.sums_bd HOD
      have LW : (La.top La.wrm xs J).1.length ≤ 1048576 := by rw [La.top_len]; omega
      have LC : (La.top La.coo xs J).1.length ≤ 1048576 := by rw [La.top_len]; omega
      have LD : (La.top La.drn xs 0).1.length ≤ 1048576 := by rw [La.top_len]; omega
      have FD : ∀ y ∈ (La.top La.drn xs 0).1, La.Fits y := ((La.okP_iff _).1 HOD).2
      have DL : Hid (∀ y ∈ (La.top La.drn xs 0).1, La.Fits y ∧ 1000 * y.wa ≤ y.ic * 60) := Lib.hid (fun y hy => ⟨FD y hy, ds3 y hy⟩)
      have hx5 : xs.length ≤ 1048576 := by omega
      have C3 := Lib.hid (fun W v h => specMassOf_any W v xs h hx5)
      have C4 := Lib.hid (fun W v h => implColdOf_any W v xs h hx5)
      have C5 := Lib.hid (fun W v h => implWarmTop_any W v xs J h hx5)
      have C6 := Lib.hid (fun W v h => implCoolTop_any W v xs J h hx5)
      have C7 := Lib.hid (fun W v h => implDrainProfile_any W v xs h hx5)
      have C8 := Lib.hid (fun W v h => specMassOf_any W v (La.top La.wrm xs J).1 h LW)
      have C9 := Lib.hid (fun W v h => specMassOf_any W v (La.top La.coo xs J).1 h LC)
      have C10 := Lib.hid (fun W v h => specMassOf_any W v (La.top La.drn xs 0).1 h LD)
      have C11 := Lib.hid (fun W v h => specColdOf_any W v (La.top La.wrm xs J).1 h LW)
      rw [hW.1, hW.2.1, hW.2.2] at C5
      rw [hC.1, hC.2.1, hC.2.2] at C6
      rw [hok, La.pfL_t hok] at C7
      simp only [hok, rv_t, rc_t] at C3 C4
      simp only [rv_t, rc_t] at C7
      simp only [HOW, rv_t, rc_t] at C8 C11
      simp only [HOC, rv_t, rc_t] at C9
      simp only [HOD, rv_t, rc_t] at C10
      clear hW hC HOW HOC HOD FD ds3 LW LC LD hok hf
      generalize (La.top La.wrm xs J).1 = ws at *
      generalize (La.top La.wrm xs J).2.1 = lw at *
      generalize (La.top La.coo xs J).1 = cs at *
      generalize (La.top La.coo xs J).2.1 = lc at *
      generalize (La.top La.drn xs 0).1 = ds at *
      generalize (La.top La.drn xs 0).2.1 = run at *
      generalize La.sm Lay.ic xs = ix at *
      generalize La.sm Lay.wa xs = ax at *
      generalize La.sm Lay.ic ws = iw at *
      generalize La.sm Lay.wa ws = aw at *
      generalize La.sm Lay.ic cs = ic at *
      generalize La.sm Lay.wa cs = ac at *
      generalize La.sm Lay.ic ds = id at *
      generalize La.sm Lay.wa ds = ad at *
      generalize La.sm La.cold xs = kx at *
      generalize La.sm La.cold ws = kw at *
      have R0 : Hid (IntKind.i64.wrap (1000 * p) = J) := Lib.hid (by rw [IntWalk.i64_in _ (by omega)]; exact hJ.symm)
      have R10 : Hid (¬ lw < 0 ∧ ¬ J < lw ∧ ¬ lc < 0 ∧ ¬ J < lc ∧ ¬ run < 0) := Lib.hid ⟨by omega, by omega, by omega, by omega, by omega⟩
      obtain ⟨T, hT⟩ : ∃ T, T = ix + ax := ⟨_, rfl⟩
      have R15 : Hid (wrap64 (iw + aw) = T ∧ wrap64 (ix + ax) = T ∧ ¬ ix < iw ∧ wrap64 (ic + ac) = T ∧ ¬ ic < ix ∧ id = ix ∧ wrap64 (ad + run) = ax ∧ (ds.length : Int) = (xs.length : Int) ∧ ¬ kx < kw) := Lib.hid (by
        have e : ∀ z : Int, -1000000000000 ≤ z ∧ z ≤ 1000000000000 → wrap64 z = z := fun z h => IntWalk.wrap64_in z (by omega)
        rw [e (iw + aw) (by omega), e (ix + ax) (by omega), e (ic + ac) (by omega), e (ad + run) (by omega)]
        refine ⟨by omega, by omega, by omega, by omega, by omega, by omega, by omega, by omega, by omega⟩)
      have R18 : Hid (¬ wrap64 (J - lw) < wrap64 (wrap64 (ix - iw) * 334) ∧ ¬ wrap64 (J - lc) < wrap64 (wrap64 (ic - ix) * 334)) := Lib.hid (by
        have e : ∀ z : Int, -1000000000000 ≤ z ∧ z ≤ 1000000000000 → wrap64 z = z := fun z h => IntWalk.wrap64_in z (by omega)
        rw [e (J - lw) (by omega), e (ix - iw) (by omega), e ((ix - iw) * 334) (by omega), e (J - lc) (by omega), e (ic - ix) (by omega), e ((ic - ix) * 334) (by omega)]
        exact ⟨by omega, by omega⟩)
      clear hT
      have HDL : Hid (ds.length = xs.length) := Lib.hid hdl
      clear wl0 wl1 ws1 ws2 ws3 ws4 cl0 cl1 cs1 cs2 cs3 dr0 ds1 ds2 hdl xi0 xi1 xa0 xa1 wi0 wi1 wa0 wa1 ci0 ci1 ca0 ca1 di0 di1 da0 da1 hj0 hj1 hx5
      have r0 := R0.out
      clear hJ
      go_wp2_with fail
      refine (C3.out v2 _ O2.out.sl).mono ?_
      rintro e v3 ⟨rfl, b3⟩
      have B3 := Lib.hid (bt B2.out b3)
      have O3 := Lib.hid (O2.out.belowAll b3)
      clear b3 O2 B2
      go_wp2_with fail
      refine (C4.out v3 _ O3.out.sl).mono ?_
      rintro e v4 ⟨rfl, b4⟩
      have B4 := Lib.hid (bt B3.out b4)
      have O4 := Lib.hid (O3.out.belowAll b4)
      clear b4 O3 B3
      go_wp2_with fail
      refine (C5.out v4 _ ⟨_, _, _, rfl, O4.out⟩).mono ?_
      rintro e v5 ⟨uw, rfl, ow, b5⟩
      have B5 := Lib.hid (bt B4.out b5)
      have O5 := Lib.hid (O4.out.belowAll b5)
      have W5 := Lib.hid ow
      clear b5 O4 B4 ow
      go_wp2_with fail
      refine (C6.out v5 _ ⟨_, _, _, rfl, O5.out⟩).mono ?_
      rintro e v6 ⟨uc, rfl, oc, b6⟩
      have B6 := Lib.hid (bt B5.out b6)
      have O6 := Lib.hid (O5.out.belowAll b6)
      have W6 := Lib.hid (W5.out.belowAll b6)
      have K6 := Lib.hid oc
      clear b6 O5 B5 W5 oc
      go_wp2_with fail
      refine (C7.out v6 _ ⟨_, _, _, rfl, O6.out⟩).mono ?_
      rintro e v7 ⟨ud, rfl, od, b7⟩
      have B7 := Lib.hid (bt B6.out b7)
      have W7 := Lib.hid (W6.out.belowAll b7)
      have K7 := Lib.hid (K6.out.belowAll b7)
      have D7 := Lib.hid od
      obtain ⟨da, dc, rfl⟩ := od.sl.form
      clear b7 O6 B6 W6 K6 od r0 R0
      obtain ⟨r1, r2, r3, r4, r5⟩ := R10.out
      go_wp2_with fail
      clear r1 r2 r3 r4 r5 R10
      refine (C8.out v7 _ W7.out.sl).mono ?_
      rintro e v8 ⟨rfl, b8⟩
      have B8 := Lib.hid (bt B7.out b8)
      have W8 := Lib.hid (W7.out.belowAll b8)
      have K8 := Lib.hid (K7.out.belowAll b8)
      have D8 := Lib.hid (D7.out.belowAll b8)
      clear b8 B7 W7 K7 D7
      go_wp2_with fail
      refine (C9.out v8 _ K8.out.sl).mono ?_
      rintro e v9 ⟨rfl, b9⟩
      have B9 := Lib.hid (bt B8.out b9)
      have W9 := Lib.hid (W8.out.belowAll b9)
      have D9 := Lib.hid (D8.out.belowAll b9)
      clear b9 B8 W8 K8 D8
      go_wp2_with fail
      refine (C10.out v9 _ D9.out.sl).mono ?_
      rintro e v10 ⟨rfl, b10⟩
      have B10 := Lib.hid (bt B9.out b10)
      have W10 := Lib.hid (W9.out.belowAll b10)
      have D10 := Lib.hid (D9.out.belowAll b10)
      clear b10 B9 W9 D9
      go_wp2_with fail
      refine (C11.out v10 _ W10.out.sl).mono ?_
      rintro e v11 ⟨rfl, b11⟩
      have B11 := Lib.hid (bt B10.out b11)
      have D11 := Lib.hid (D10.out.belowAll b11)
      clear b11 B10 W10 D10 C3 C4 C5 C6 C7 C8 C9 C10 C11
      obtain ⟨r1, r2, r3, r4, r5, r6, r7, r8, r9⟩ := R15.out
      obtain ⟨t1, t2⟩ := R18.out
      go_wp2_with fail
      clear r1 r2 r3 r4 r5 r6 r7 r8 r9 t1 t2 R15 R18
      go_loopw [32] (fun i wr => ∃ k : Nat, k ≤ ds.length ∧ i = .int .i64 k ∧ Hid (Below v11.heap.size v11 wr)) (fun i _ => ds.length - (intOf i).toNat)
      case atStart => exact ⟨0, Nat.zero_le _, rfl, Lib.hid (Below.refl _ _)⟩
      case round =>
        obtain ⟨k, hk, rfl, hb⟩ := hrel
        have hd5 : ds.length ≤ 5 := by have := HDL.out; omega
        by_cases hlt : k < ds.length
        · have hltz : (k : Int) < (ds.length : Int) := by omega
          have hk0 : (0 : Int) ≤ k := by omega
          obtain ⟨b, off, cap1, hn, hbl, hcc⟩ := (D11.out.sl.below hb.out).at_ hlt
          simp only [Value.slice.injEq] at hn
          obtain ⟨rfl, -, rfl⟩ := hn
          obtain ⟨c0, c1, c2, c3, c4, c5, c6⟩ := hcc k hlt
          obtain ⟨fy, hy⟩ := DL.out ds[k] (List.getElem_mem hlt)
          have i1 := fy.i1; have i2 := fy.i2; have a1 := fy.w1; have a2 := fy.w2
          clear hcc fy
          generalize ds[k] = y at *
          have hno : ¬ y.ic * 60 < 1000 * y.wa := by omega
          have nw1 : IntKind.i64.wrap (1000 * y.wa) = 1000 * y.wa := IntWalk.i64_in _ (by omega)
          have nw2 : IntKind.i64.wrap (y.ic * 60) = y.ic * 60 := IntWalk.i64_in _ (by omega)
          go_wp2_with fail
          go_quiet (fail)
          go_wp2_with fail
          exact ⟨⟨k + 1, by omega, by go_num, Lib.hid (by first | exact below_drewN hb.out _ | exact below_drewN (below_drewN hb.out _) _)⟩, by simp only [intOf]; omega⟩
        · have hltz : ¬ (k : Int) < (ds.length : Int) := by omega
          go_wp2_with fail
          go_ret
          exact ⟨rfl, bt B11.out hb.out⟩
    · have h : 1048576 < len0 ∨ 1048576 < len1 := Or.inr (by omega)
      clear w0 w1
      go_enter Try.func7, Try.ntmps7
      go_wp2_with fail
      refine (r8Long_yes w _ _ len0 len1 _ _ h).mono ?_
      rintro e w' ⟨rfl, rfl⟩
      go_wp2_with fail
      go_ret
      exact ⟨rfl, Below.refl _ _⟩
  · have h : 1048576 < len0 ∨ 1048576 < len1 := Or.inl (by omega)
    clear w0 w1
    go_enter Try.func7, Try.ntmps7
    go_wp2_with fail
    refine (r8Long_yes w _ _ len0 len1 _ _ h).mono ?_
    rintro e w' ⟨rfl, rfl⟩
    go_wp2_with fail
    go_ret
    exact ⟨rfl, Below.refl _ _⟩
end Go.Proofs.Ytfbfdiejffjbmaa.fnMass

/-
  The walk of the law FnForms and what it stands on: For every two slices of bytes (nil, shared and with spare room too) the law Forms returns true and writes nothing that was there, where impl.formRules and impl.formNames hold what the program's text lays (tied by the card). No other condition (beyond 2^20 bytes the law itself returns true).
-/
import Derived.Test.YtfbfdiejffjbmaaDoorRows
import Derived.Test.YtfbfdiejffjbmaaDoorDrQ
import Derived.Test.YtfbfdiejffjbmaaDoorR8
import Derived.Test.YtfbfdiejffjbmaaDoorHrP
import Derived.Test.YtfbfdiejffjbmaaDoorHrK
import Derived.Test.YtfbfdiejffjbmaaDoorSame
import Derived.Test.YtfbfdiejffjbmaaDoorNames
import Derived.Lib.Strings
import Derived.WalkKit
import Derived.WalkSpells
import Derived.WalkLawsBesides
import Derived.Outline
import Derived.IntWalk
import Derived.Lib.Hide
import Derived.ProofKit
import Derived.OpenShut
import Derived.ShutString
import Derived.ChangeOld
import Derived.ChangeVars
import Derived.Below
import Derived.WalkSmall
import Derived.Lib.LaidTab
import Derived.LaidMore
import Derived.LaidSub
namespace Go.Proofs.YtfbfdiejffjbmaaDoor.fnForms
open Go.ChangeShapes Go.WideShapes Go.ChangeAt Go.RowKit
open Go.ChangeMaps (open_string shut_string)
set_option linter.unusedVariables false
def IsRow (k : IntKind) (w : World) (a : Option Addr) (len cap : Nat) (zs : List Int) : Prop :=
  (a = none ∧ len = 0 ∧ cap = 0 ∧ zs = []) ∨
  ∃ x, a = some x ∧ len ≤ cap ∧ cap ≤ maxLen ∧ zs.length = cap ∧ (∀ i, i < zs.length → w.cell? (x.add i) = some (.int k (zs.getD i 0))) ∧ ∀ n ∈ zs, (Lit.int k n).wf = true
set_option maxRecDepth 100000
set_option maxHeartbeats 12800000
/-- the names -/
def names : List (List UInt8) := [[110, 101, 119], [98, 114, 111, 107, 101, 110], [114, 111, 117, 110, 100], [102, 97, 99, 101, 116], [104, 111, 97, 114], [109, 101, 108, 116]]
/-- the name of a form -/
def nameOf (a : Int) : ByteArray := if 1 ≤ a ∧ a ≤ 6 then ⟨(names.getD (a - 1).toNat []).toArray⟩ else ⟨#[]⟩
theorem gName : Tryd.prog.globalNamed "loop.example/g01013/impl.formNames" = some 0 := by kernel_rfl
theorem tName : (Tryd.prog.globals[0]?).map (·.type) = some 56 := by kernel_rfl
theorem cName : Tryd.prog.cellsOf 9 = 1 := by kernel_rfl
set_option maxHeartbeats 1600000 in
theorem impl_any (a : Int) (w : World) (hc : ∀ (i : Nat) (b : List UInt8), names[i]? = some b → i < 6 → w.cell? ⟨0, i, none⟩ = some (.string ⟨b.toArray⟩)) :
    Calls Tryd.prog 11 #[.int .i64 a] w fun e w' => e = .returned (.string (nameOf a)) ∧ w = w' := by
  rcases in_cases 1 a 6 with ⟨h1, h2, hi⟩ | ⟨hn, hi⟩
  · have c0 := hc 0 _ rfl (by omega)
    have c1 := hc 1 _ rfl (by omega)
    have c2 := hc 2 _ rfl (by omega)
    have c3 := hc 3 _ rfl (by omega)
    have c4 := hc 4 _ rfl (by omega)
    have c5 := hc 5 _ rfl (by omega)
    have hcs : a = 1 ∨ a = 2 ∨ a = 3 ∨ a = 4 ∨ a = 5 ∨ a = 6 := by omega
    clear h1 h2 hc
    rcases hcs with rfl | rfl | rfl | rfl | rfl | rfl
    all_goals
      go_enter Tryd.func11, Tryd.ntmps11
      go_wp2_with (go_at_call 29; refine (within_any _ _ _ _).mono ?_; rintro e w' ⟨rfl, rfl⟩)
      go_ret
      exact ⟨rfl, rfl⟩
  · have hz : Hid (nameOf a = ⟨#[]⟩) := Lib.hid (by unfold nameOf; rw [if_neg hn])
    clear hn hc
    go_enter Tryd.func11, Tryd.ntmps11
    go_wp2_with (go_at_call 29; refine (within_any _ _ _ _).mono ?_; rintro e w' ⟨rfl, rfl⟩)
    go_ret
    exact ⟨ret_str hz.out.symm, rfl⟩
theorem nameOf_some {a : Int} (h1 : 1 ≤ a) (h2 : a ≤ 6) : (nameOf a).toList.isEmpty = false := by
  have hcs : a = 1 ∨ a = 2 ∨ a = 3 ∨ a = 4 ∨ a = 5 ∨ a = 6 := by omega
  have e : ∀ s : ByteArray, s.data.toList.isEmpty = false → s.toList.isEmpty = false := fun s h => by rw [Lib.toList_data]; exact h
  rcases hcs with rfl | rfl | rfl | rfl | rfl | rfl <;> exact e _ rfl
theorem frm_age {x : Lay} {g : Int} (h : La.frm x g ≠ x.fo) (hw : ¬ 0 < x.wa) : 24 ≤ x.ag := by
  unfold La.frm at h
  rw [if_neg hw] at h
  repeat' split at h
  all_goals omega
theorem rev_at {xs : List Lay} {n : Nat} (h : n < xs.length) (h' : n < xs.reverse.length) : xs.reverse[n] = xs[xs.length - 1 - n] := by
  rw [List.getElem_reverse]
theorem rev_snoc {xs : List Lay} {j : Nat} (h : j < xs.length) : (xs.drop (j + 1)).reverse ++ [xs[j]] = (xs.drop j).reverse := by
  rw [List.drop_eq_getElem_cons h, List.reverse_cons]
theorem walk (a0 : Option Addr) (len0 cap0 : Nat) (z0 : List Int) (a1 : Option Addr) (len1 cap1 : Nat) (z1 : List Int) (w : World) (w0 : IsRow .u8 w a0 len0 cap0 z0) (w1 : IsRow .u8 w a1 len1 cap1 z1) (hL : laidMetH Tryd.prog Rows.fnFormsRow.laid w) (hsh : w.ShapedOpen Tryd.prog) :
    Calls Tryd.prog 3 #[.slice a0 len0 cap0, .slice a1 len1 cap1] w fun e w' => e = .returned (.bool true) ∧ Below w.heap.size w w' := by
  by_cases hb0 : len0 ≤ 1048576
  · by_cases hb1 : len1 ≤ 1048576
    · have V0 := Lib.hid (Bs.of_row w0)
      have HR := Lib.hid (rules_of hL (by kernel_rfl))
      have HC := Lib.hid (texts_of (ss := names) hL (by kernel_rfl) gName tName Tryd.underlying56 Tryd.underlying9 cName)
      obtain ⟨i0, hi, hz0, hz1, hz2⟩ := info_parts info_layer
      clear hL hsh w0 w1
      go_enter Tryd.func3, Tryd.ntmps3
      go_wp2_with fail
      refine (r8Long_no w _ _ len0 len1 _ _ hb0 hb1).mono ?_
      rintro e w' ⟨rfl, rfl⟩
      go_wp2_with fail
      refine (r8Profile_any w _ len0 V0.out hb0).mono ?_
      rintro e v1 ⟨xs, q, cap, rfl, h5, hf, o1, b1⟩
      have B1 := Lib.hid b1
      have O1 := Lib.hid o1
      have HQ : Hid (La.okP xs = true) := Lib.hid ((La.okP_iff xs).2 ⟨by omega, hf.out⟩)
      have z1 := b1.size
      clear b1 o1 V0
      go_wp2_with fail
      go_loopw [6, 7] (fun u i wr => ∃ (m g cap' : Nat), m ≤ xs.length ∧ i = .int .i64 ((m : Int) - 1) ∧ u = .slice (some ⟨g, 0, none⟩) (xs.length - m) cap' ∧ Hid (wr.ownsRow v1.heap.size 27 7 (.slice (some ⟨g, 0, none⟩) (xs.length - m) cap') (xs.length - m) (iv (La.fl (xs.drop m).reverse))) ∧ Hid (Below v1.heap.size v1 wr)) (fun _ i _ => (intOf i + 1).toNat)
      case atStart => exact ⟨xs.length, v1.heap.size, 0, Nat.le_refl _, rfl, by rw [Nat.sub_self], Lib.hid (by rw [Nat.sub_self, List.drop_length]; exact World.ownsRow_lit _ _ _ (Nat.le_refl _) (by decide) (by decide)), Lib.hid ((Below.refl _ _).alloc (Nat.le_refl _) _)⟩
      case round =>
        obtain ⟨m, g, cap', hm, rfl, rfl, ho, hb⟩ := hrel
        rcases m with _ | j
        · rw [show ((0 : Nat) : Int) - 1 = -1 from rfl]
          have OT : Hid (LOwn v1.heap.size wr (.slice (some ⟨g, 0, none⟩) xs.reverse.length cap') xs.reverse) := Lib.hid (by have := ho.out; rw [Nat.sub_zero, List.drop_zero] at this; unfold LOwn; rw [List.length_reverse]; exact this)
          have hrl : xs.length - 0 = xs.reverse.length := by simp
          rw [hrl]
          obtain ⟨ys, hys⟩ : ∃ ys, ys = xs.reverse := ⟨_, rfl⟩
          rw [← hys] at OT ⊢
          have HY := Lib.hid hys
          have B2 := Lib.hid (bt B1.out hb.out)
          have O2 := Lib.hid (O1.out.belowAll hb.out)
          clear ho hb O1 B1 hrl hys
          go_wp2_with fail
          have hx5 : xs.length ≤ 1048576 := by omega
          have l5 : (xs.length : Int) ≤ 5 := by omega
          have l0 : (0 : Int) ≤ xs.length := by omega
          go_loopw [8] (fun i wq => ∃ k : Nat, k ≤ xs.length ∧ i = .int .i64 k ∧ Hid (Below wr.heap.size wr wq)) (fun i _ => xs.length - (intOf i).toNat)
          case atStart => exact ⟨0, Nat.zero_le _, rfl, Lib.hid (Below.refl _ _)⟩
          case round =>
            obtain ⟨k, hk, rfl, hb⟩ := hrel
            have hk0 : (0 : Int) ≤ k := by omega
            by_cases hlt : k + 1 < xs.length
            · have hltz : (k : Int) < (xs.length : Int) - 1 := by omega
              have OW := Lib.hid (O2.out.belowAll hb.out)
              have TW := Lib.hid (OT.out.belowAll hb.out)
              have hin : Ar.inB 0 (k : Int) (xs.length - 2) = true := Ar.inB_t (by omega) (by omega)
              have hk1 : k < xs.length := by omega
              have g1 := La.gd_0 HQ.out hin hk1 hlt
              have hyl : ys.length = xs.length := by rw [HY.out, List.length_reverse]
              have hq2 : La.okP ys = true := (La.okP_iff _).2 ⟨by omega, fun x hx => ((La.okP_iff xs).1 HQ.out).2 x (by rw [HY.out] at hx; exact List.mem_reverse.1 hx)⟩
              obtain ⟨n, hn⟩ : ∃ n, n = xs.length - 2 - k := ⟨_, rfl⟩
              have hnz : (xs.length : Int) - 2 - k = (n : Int) := by omega
              have hin2 : Ar.inB 0 (n : Int) (ys.length - 2) = true := by rw [hyl]; exact Ar.inB_t (by omega) (by omega)
              have hr1 : n < ys.length := by omega
              have hr2 : n + 1 < ys.length := by omega
              have g2 := La.gd_0 hq2 hin2 hr1 hr2
              have e1 : ys[n] = xs[k + 1] := by simp only [HY.out]; rw [rev_at (by omega)]; congr 1; omega
              have e2 : ys[n + 1] = xs[k] := by simp only [HY.out]; rw [rev_at (by omega)]; congr 1; omega
              have tu := La.grd_turn (La.fits_at HQ.out hk1) (La.fits_at HQ.out hlt)
              have GB := La.grd_bd (La.fits_at HQ.out hk1) (La.fits_at HQ.out hlt)
              rw [e1, e2, tu] at g2
              have hy5 : ys.length ≤ 1048576 := by omega
              have C1 := Lib.hid (implGradientOf_any wr _ xs k ⟨_, _, _, rfl, OW.out⟩ hx5)
              have C2 := Lib.hid (fun W (h : LOwn v1.heap.size W (.slice (some ⟨g, 0, none⟩) ys.length cap') ys) => implGradientOf_any W (.slice (some ⟨g, 0, none⟩) ys.length cap') ys n ⟨_, _, _, rfl, h⟩ hy5)
              rw [g1.1, g1.2] at C1
              rw [g2.1, g2.2, ← hnz] at C2
              clear g1 g2 e1 e2 tu
              clear hr1 hr2 hin hin2 hq2 hyl hy5
              generalize La.grd xs[k] xs[k + 1] = gg at *
              have nwg : wrap64 gg = gg := IntWalk.wrap64_in _ (by omega)
              have nwg2 : wrap64 (-gg) = -gg := IntWalk.wrap64_in _ (by omega)
              clear hnz hn
              go_wp2_with fail
              refine C1.out.mono ?_
              rintro e w4 ⟨rfl, b4⟩
              have B4 := Lib.hid (bt hb.out b4)
              have T4 := Lib.hid (TW.out.belowAll b4)
              clear b4 C1
              go_wp2_with fail
              refine (C2.out w4 T4.out).mono ?_
              rintro e w5 ⟨rfl, b5⟩
              have B5 := Lib.hid (bt B4.out b5)
              clear b5 C2
              go_wp2_with fail
              exact ⟨⟨k + 1, by omega, by go_num, B5⟩, by simp only [intOf]; omega⟩
            · have hltz : ¬ (k : Int) < (xs.length : Int) - 1 := by omega
              have OW := Lib.hid (O2.out.belowAll hb.out)
              have BW := Lib.hid (bt B2.out hb.out)
              have CF := Lib.hid (implChangeForms_any wr _ xs ⟨_, _, _, rfl, OW.out⟩ hx5 (HR.out.below BW.out))
              rw [HQ.out, La.pfL_t HQ.out] at CF
              have hcl := La.chf_len xs
              have CK : Hid (∀ k (hk : k < xs.length) (hk' : k < (La.chf xs).length), (La.chf xs)[k] = La.lfm xs k) := Lib.hid (fun k hk hk' => by
                have e : (La.chf xs)[k]? = some (La.lfm xs k) := by unfold La.chf; rw [List.getElem?_map, List.getElem?_range hk]; rfl
                exact (List.getElem?_eq_some_iff.1 e).2)
              go_wp2_with fail
              refine CF.out.mono ?_
              rintro e w4 ⟨u, rfl, o4, b4⟩
              obtain ⟨ua, uc, rfl⟩ := o4.sl.form
              have N4 := Lib.hid o4
              have B4 := Lib.hid (bt BW.out b4)
              have O4 := Lib.hid (OW.out.belowAll b4)
              have q5 : (((La.chf xs).length : Int) != (xs.length : Int)) = false := by rw [hcl]; simp
              have hcl2 := Lib.hid hcl
              clear b4 o4 CF hcl
              generalize La.chf xs = cs at *
              go_wp2_with fail
              clear q5
              go_loopw [15] (fun i wq => ∃ k : Nat, k ≤ xs.length ∧ i = .int .i64 k ∧ Hid (Below w4.heap.size w4 wq)) (fun i _ => xs.length - (intOf i).toNat)
              case atStart => exact ⟨0, Nat.zero_le _, rfl, Lib.hid (Below.refl _ _)⟩
              case round =>
                obtain ⟨k, hk, rfl, hb⟩ := hrel
                have hk0 : (0 : Int) ≤ k := by omega
                by_cases hlt : k < xs.length
                · have hltz : (k : Int) < (xs.length : Int) := by omega
                  have hltc : k < cs.length := by rw [hcl2.out]; exact hlt
                  have hltcz : (k : Int) < (cs.length : Int) := by omega
                  obtain ⟨b, off, cap1, hn, hbl, hcc⟩ := (N4.out.belowAll hb.out).sl.at_ hltc
                  simp only [Value.slice.injEq] at hn
                  obtain ⟨rfl, -, rfl⟩ := hn
                  have FX := La.fits_at HQ.out hlt
                  have DC := hcc k hltc
                  rw [CK.out k hlt hltc, La.lfm_eq hlt rfl] at DC
                  obtain ⟨d0, d1, d2, d3, d4, d5, d6⟩ := DC
                  obtain ⟨c0, c1, c2, c3, c4, c5, c6⟩ := (O4.out.belowAll hb.out).cells hlt
                  have hlq := World.block_lt_of_cell? _ _ c0
                  have FF := La.frm_fits (g := La.stp xs k) FX
                  have FM : Hid (0 < xs[k].wa ∨ xs[k].fo = 6 → La.frm xs[k] (La.stp xs k) = 6) := Lib.hid (fun h => La.frm_melt h)
                  have FA : Hid (La.frm xs[k] (La.stp xs k) ≠ xs[k].fo → ¬ 0 < xs[k].wa → 24 ≤ xs[k].ag) := Lib.hid (fun h hw => frm_age h hw)
                  have f1 : 1 ≤ La.frm xs[k] (La.stp xs k) := FF.f1
                  have f2 : La.frm xs[k] (La.stp xs k) ≤ 6 := FF.f2
                  have w1 := FX.w1
                  have HTX : Hid (∀ o n, ∀ (i : Nat) (b : List UInt8), names[i]? = some b → i < 6 → ((wr.alloc o).drewN n).cell? ⟨0, i, none⟩ = some (.string ⟨b.toArray⟩)) := Lib.hid (fun o n => texts_below HC.out (below_drewN ((bt B4.out hb.out).alloc (bt B4.out hb.out).size o) n))
                  have SN := nameOf_some f1 f2
                  have hneq : ∀ W, (binOp .neq 27 (.agg #[.int .i64 xs[k].fo, .int .i64 xs[k].ic, .int .i64 xs[k].wa, .int .i64 xs[k].de, .int .i64 xs[k].dg, .int .i64 xs[k].ha, .int .i64 xs[k].ag]) (.agg #[.int .i64 xs[k].fo, .int .i64 xs[k].ic, .int .i64 xs[k].wa, .int .i64 xs[k].de, .int .i64 xs[k].dg, .int .i64 xs[k].ha, .int .i64 xs[k].ag])).run Tryd.prog W = .ok (.bool false) W := fun W => by rw [neq_layer, La.eqL_self]; rfl
                  clear hcc FX FF
                  generalize La.frm xs[k] (La.stp xs k) = f at *
                  generalize xs[k] = x at *
                  obtain ⟨sn, hsn⟩ : ∃ sn, sn = nameOf f := ⟨_, rfl⟩
                  rw [← hsn] at SN
                  have HSN : Hid (Ending.returned (.string (nameOf f)) = .returned (.string sn)) := Lib.hid (by rw [hsn])
                  clear hsn
                  by_cases hw : 0 < x.wa
                  · have h6 := FM.out (Or.inl hw)
                    have n6 : (f != 6) = false := by rw [h6]; rfl
                    have nw0 : (x.wa == 0) = false := beq_eq_false_iff_ne.2 (by omega)
                    clear h6
                    by_cases hfo : f = x.fo
                    · have nf : (f != x.fo) = false := by rw [bne_eq_false_iff_eq]; exact hfo
                      clear hfo
                      go_wp2_with fail
                      go_quiet ((go_at_call 11; exact Calls.quiet_of_same ((impl_any f _ (HTX.out _ _)).mono fun _ _ ⟨h, h'⟩ => ⟨h.trans HSN.out, h'.symm⟩)))
                      go_wp2_with fail
                      exact ⟨⟨k + 1, by omega, by go_num, Lib.hid (bt hb.out (by first | exact below_drewN ((Below.refl _ _).alloc (Nat.le_refl _) _) _ | exact below_drewN (below_drewN ((Below.refl _ _).alloc (Nat.le_refl _) _) _) _))⟩, by simp only [intOf]; omega⟩
                    · have nf : (f != x.fo) = true := by rw [bne_iff_ne]; exact hfo
                      clear hfo
                      by_cases hag : x.ag < 24
                      · go_wp2_with fail
                        go_quiet ((go_at_call 11; exact Calls.quiet_of_same ((impl_any f _ (HTX.out _ _)).mono fun _ _ ⟨h, h'⟩ => ⟨h.trans HSN.out, h'.symm⟩)))
                        go_wp2_with fail
                        exact ⟨⟨k + 1, by omega, by go_num, Lib.hid (bt hb.out (by first | exact below_drewN ((Below.refl _ _).alloc (Nat.le_refl _) _) _ | exact below_drewN (below_drewN ((Below.refl _ _).alloc (Nat.le_refl _) _) _) _))⟩, by simp only [intOf]; omega⟩
                      · have hagd : decide (x.ag < 24) = false := decide_eq_false hag
                        go_wp2_with fail
                        go_quiet ((go_at_call 11; exact Calls.quiet_of_same ((impl_any f _ (HTX.out _ _)).mono fun _ _ ⟨h, h'⟩ => ⟨h.trans HSN.out, h'.symm⟩)))
                        go_wp2_with fail
                        exact ⟨⟨k + 1, by omega, by go_num, Lib.hid (bt hb.out (by first | exact below_drewN ((Below.refl _ _).alloc (Nat.le_refl _) _) _ | exact below_drewN (below_drewN ((Below.refl _ _).alloc (Nat.le_refl _) _) _) _))⟩, by simp only [intOf]; omega⟩
                  · have hwd : decide (0 < x.wa) = false := decide_eq_false hw
                    by_cases hfo : f = x.fo
                    · have nf : (f != x.fo) = false := by rw [bne_eq_false_iff_eq]; exact hfo
                      clear hfo
                      go_wp2_with fail
                      go_quiet ((go_at_call 11; exact Calls.quiet_of_same ((impl_any f _ (HTX.out _ _)).mono fun _ _ ⟨h, h'⟩ => ⟨h.trans HSN.out, h'.symm⟩)))
                      go_wp2_with fail
                      exact ⟨⟨k + 1, by omega, by go_num, Lib.hid (bt hb.out (by first | exact below_drewN ((Below.refl _ _).alloc (Nat.le_refl _) _) _ | exact below_drewN (below_drewN ((Below.refl _ _).alloc (Nat.le_refl _) _) _) _))⟩, by simp only [intOf]; omega⟩
                    · have nf : (f != x.fo) = true := by rw [bne_iff_ne]; exact hfo
                      have hag : ¬ x.ag < 24 := by have := FA.out hfo hw; omega
                      have hagd : decide (x.ag < 24) = false := decide_eq_false hag
                      clear hfo
                      go_wp2_with fail
                      go_quiet ((go_at_call 11; exact Calls.quiet_of_same ((impl_any f _ (HTX.out _ _)).mono fun _ _ ⟨h, h'⟩ => ⟨h.trans HSN.out, h'.symm⟩)))
                      go_wp2_with fail
                      exact ⟨⟨k + 1, by omega, by go_num, Lib.hid (bt hb.out (by first | exact below_drewN ((Below.refl _ _).alloc (Nat.le_refl _) _) _ | exact below_drewN (below_drewN ((Below.refl _ _).alloc (Nat.le_refl _) _) _) _))⟩, by simp only [intOf]; omega⟩
                · have hkz : k = xs.length := by omega
                  subst hkz
                  have hnl : ¬ (xs.length : Int) < (xs.length : Int) := by omega
                  go_wp2_with fail
                  go_ret
                  exact ⟨rfl, bt B4.out hb.out⟩
        · rw [show ((j + 1 : Nat) : Int) - 1 = (j : Int) by omega]
          have hlt : j < xs.length := by omega
          have hj0 : ¬ (j : Int) < 0 := by omega
          have hj1 : (0 : Int) ≤ j := by omega
          have hji : (j : Int) < xs.length := by omega
          obtain ⟨c0, c1, c2, c3, c4, c5, c6⟩ := (O1.out.belowAll hb.out).cells hlt
          have hg : v1.heap.size ≤ g := (World.ownsRow.lt ho.out g rfl).1
          have RS := Lib.hid (rev_snoc hlt)
          have hnm : xs.length - (j + 1) + 1 = xs.length - j := by omega
          generalize xs[j] = x at *
          go_wp2_with (at_builtin; refine wpList_append_own _ rfl _ _ 24 rfl v1.heap.size 27 i0 _ 7 56 Tryd.underlying24 hi hz0 hz1 hz2 rfl (by decide) _ _ _ rfl (ho.out.alloc _) ⟨wr.heap.size, 0, none⟩ 1 1 (iv (La.lv x)) rfl rfl (row_new _ (iv (La.lv x)) _) (iv_cell _) ?c3 ?c4 ?c5 ?_)
          case c3 => unfold maxLen; omega
          case c4 => omega
          case c5 => have := hb.out.size; simp; omega
          intro v4 w4 own4 grow4 _
          have hform : ∃ g' cap'', v4 = .slice (some ⟨g', 0, none⟩) (xs.length - j) cap'' := by
            rcases Go.Joins.ownsRow_forms own4 with ⟨-, h0⟩ | ⟨g', cap'', h⟩
            · omega
            · exact ⟨g', cap'', by first | exact h | rw [h, hnm]⟩
          obtain ⟨g', cap'', rfl⟩ := hform
          have N1 : Hid (w4.ownsRow v1.heap.size 27 7 (.slice (some ⟨g', 0, none⟩) (xs.length - j) cap'') (xs.length - j) (iv (La.fl (xs.drop j).reverse))) := Lib.hid (by rw [← RS.out, fl_snocD]; first | exact own4 | (rw [← hnm]; exact own4) | (rw [← hnm]; rw [← hnm] at own4; exact own4))
          have N3 : Hid (Below v1.heap.size v1 w4) := Lib.hid ((hb.out.alloc hb.out.size _).grown grow4 (by have := hb.out.size; simp; omega) (fun j hj => by simp only [Value.ownBlock, Option.some.injEq] at hj; omega))
          clear own4 grow4
          go_wp2_with fail
          exact ⟨⟨j, g', cap'', by omega, by go_num, rfl, N1, N3⟩, by simp only [intOf]; omega⟩
    · have h : 1048576 < len0 ∨ 1048576 < len1 := Or.inr (by omega)
      clear w0 w1
      go_enter Tryd.func3, Tryd.ntmps3
      go_wp2_with fail
      refine (r8Long_yes w _ _ len0 len1 _ _ h).mono ?_
      rintro e w' ⟨rfl, rfl⟩
      go_wp2_with fail
      go_ret
      exact ⟨rfl, Below.refl _ _⟩
  · have h : 1048576 < len0 ∨ 1048576 < len1 := Or.inl (by omega)
    clear w0 w1
    go_enter Tryd.func3, Tryd.ntmps3
    go_wp2_with fail
    refine (r8Long_yes w _ _ len0 len1 _ _ h).mono ?_
    rintro e w' ⟨rfl, rfl⟩
    go_wp2_with fail
    go_ret
    exact ⟨rfl, Below.refl _ _⟩
end Go.Proofs.YtfbfdiejffjbmaaDoor.fnForms

/-
  ReadProfile of chapter 3, by the model. No condition of its own.
-/
import Derived.Test.YtmieckchppfogaaDoorPrI
namespace Go.Proofs.YtmieckchppfogaaDoor
open Go.RowKit Go.ChangeShapes Go.WideShapes Go.Deep
set_option linter.unusedVariables false
set_option maxRecDepth 100000

theorem ownsRow_drew {B : Nat} {w : World} {e : TypeId} {size n : Nat} {v : Value} {xs : List Value} (h : w.ownsRow B e size v n xs) : w.drew.ownsRow B e size v n xs := own_belowAll h (below_drewW w 1)
theorem list_at (p : List UInt8) (hp : p.length ≤ 1048576) (w : World) :
    Calls Tryd.prog 66 #[.string ⟨p.toArray⟩] w (RL w (rl p)) := by
  have := specReadList_any ⟨p.toArray⟩ w (by rw [sz_mk]; exact hp)
  simpa using this
/-- the cells of a row of texts -/
def PC (P : List (List UInt8)) (g : Nat) (W : World) : Prop := g < W.heap.size ∧ ∀ j b, P[j]? = some b → W.cell? ⟨g, j, none⟩ = some (.string ⟨b.toArray⟩)
theorem PC.below {P : List (List UInt8)} {g : Nat} {W W1 : World} (h : PC P g W) (hb : Below W.heap.size W W1) : PC P g W1 :=
  ⟨Nat.lt_of_lt_of_le h.1 hb.size, fun j b hj => (hb.cell (p := ⟨g, j, none⟩) h.1).trans (h.2 j b hj)⟩
theorem PC.grow {P : List (List UInt8)} {g : Nat} {W W1 : World} {r : Option Nat} (h : PC P g W) (hb : W.grownBy W1 r) (hr : r ≠ some g) : PC P g W1 :=
  ⟨Nat.lt_of_lt_of_le h.1 hb.size, fun j b hj => (hb.cell_far ⟨g, j, none⟩ h.1 (Ne.symm hr)).trans (h.2 j b hj)⟩
theorem own_litB (g j n c : Nat) (h : (Value.slice (some ⟨g, 0, none⟩) n c).ownBlock = some j) : j = g := by simp [Value.ownBlock] at h; omega

set_option maxHeartbeats 3200000 in
theorem l03Read_any (s : ByteArray) (w : World) (hs : s.size ≤ 1048576) :
    Calls Tryd.prog 42 #[.string s] w (RP w (La.rp s.data.toList)) := by
  obtain ⟨i0, hi, hz0, hz1, hz2⟩ := info_parts info_layer
  have hsl : s.data.toList.length = s.size := by simp
  by_cases hm : s.data.toList = [45]
  · have hr : Hid (La.rp s.data.toList = some []) := Lib.hid (by unfold La.rp; rw [if_pos hm])
    have ht : (s.toList == [45]) = true := by rw [ByteArray.toList_eq, hm]; rfl
    clear hm hsl
    go_enter Tryd.func42, Tryd.ntmps42
    go_wp2
    go_ret2
    exact RP.yes hr.out (own_lit0 w) ((Below.refl _ _).alloc (Nat.le_refl _) _)
  · have ht : (s.toList == [45]) = false := by rw [ByteArray.toList_eq, beq_eq_false_iff_ne]; exact hm
    have hr : Hid (La.rp s.data.toList = La.vp (La.mpy (spl 59 s.data.toList))) := Lib.hid (by unfold La.rp; rw [if_neg hm])
    have hroom : Hid (∀ zs, La.mpy (spl 59 s.data.toList) = some zs → zs.length ≤ 1048576) := Lib.hid (fun zs h => by have := La.parts_room h; omega)
    have hpl := Lib.hid (spl_part_len 59 s.data.toList)
    have hPl : (spl 59 s.data.toList).length ≤ 1048577 := by have := spl_len 59 s.data.toList; omega
    have B0 : Hid (Below w.heap.size w (w.alloc (.cells #[] 56))) := Lib.hid ((Below.refl _ _).alloc (Nat.le_refl _) _)
    have C := Lib.hid (l01Split_any s 59 (w.alloc (.cells #[] 56)) hs)
    have hlen := Lib.hid (show s.data.toList.length ≤ 1048576 by omega)
    have hpos := List.length_pos_iff.2 (spl_ne 59 s.data.toList)
    clear hm hsl
    generalize La.rp s.data.toList = o at *
    generalize spl 59 s.data.toList = P at *
    go_enter Tryd.func42, Tryd.ntmps42
    go_wp2_with fail
    refine C.out.mono ?_
    rintro e w1 ⟨v, rfl, hst, hb1⟩
    have HPC : Hid (∃ g cap, v = .slice (some ⟨g, 0, none⟩) P.length cap ∧ w.heap.size < g ∧ PC P g w1) := Lib.hid (by
      obtain ⟨g, cap, hv, hg, hc⟩ := strs_form hst hpos
      subst hv
      have := (World.ownsRow.lt hst g rfl).1
      simp at this
      exact ⟨g, cap, rfl, by omega, hg, hc⟩)
    obtain ⟨g, cap, rfl, hg, hpc⟩ := HPC.out
    have HB1 : Hid (Below w.heap.size w w1) := Lib.hid (bt B0.out hb1)
    have HO1 : Hid (LOwn w.heap.size w1 (.slice (some ⟨w.heap.size, 0, none⟩) 0 0) []) := Lib.hid (LOwn.belowAll (own_lit0 w) hb1)
    have HP1 := Lib.hid hpc
    have HN1 : Hid ((Value.slice (some ⟨w.heap.size, 0, none⟩) 0 0).ownBlock ≠ some g) := Lib.hid (fun h => by have := own_litB _ _ _ _ h; omega)
    clear hst hb1 HPC hpc hpos
    go_wp2
    go_loopw [4, 6] (fun ov iv wr => ∃ (k : Nat) (zs : List Lay) (u : Value), k ≤ P.length ∧ zs.length = k ∧ iv = .int .i64 k ∧ u = ov ∧ Hid (LOwn w.heap.size wr u zs) ∧ Hid (Below w.heap.size w wr) ∧ Hid (PC P g wr) ∧ Hid (u.ownBlock ≠ some g) ∧ Hid (La.mpy (P.take k) = some zs)) (fun _ iv _ => P.length - (intOf iv).toNat)
    case atStart => exact ⟨0, [], _, Nat.zero_le _, rfl, rfl, rfl, HO1, HB1, HP1, HN1, Lib.hid rfl⟩
    case round =>
      obtain ⟨k, zs, u, hk, hzk, rfl, rfl, ho, hb, hpc, hnb, hmp⟩ := hrel
      have HZK := Lib.hid hzk
      have hzk' : zs.length ≤ 1048577 := by omega
      clear hzk
      by_cases hlt : k < P.length
      · have c1 : wr.cell? ⟨g, k, none⟩ = some (.string ⟨(P[k]).toArray⟩) := hpc.out.2 k _ (List.getElem?_eq_getElem hlt)
        have hgr : g < wr.heap.size := hpc.out.1
        have hpn : (P[k]).length ≤ 1048576 := by have := hpl.out P[k] (List.getElem_mem hlt); have := hlen.out; omega
        have HMem := Lib.hid (List.getElem_mem hlt)
        have hsn : Hid (P.take (k + 1) = P.take k ++ [P[k]]) := Lib.hid (by rw [List.take_succ_eq_append_getElem hlt])
        generalize P[k] = p at *
        have CN := Lib.hid (list_at p hpn wr)
        have hbs := hb.out.size
        rcases hrd : rl p with _ | ns
        · have hfin : Hid (o = none) := Lib.hid (by rw [hr.out, La.mpy_none HMem.out (La.ry_n hrd)]; rfl)
          rw [hrd] at CN
          clear hrd
          go_wp2_with fail
          refine CN.out.mono ?_
          rintro e w2 ⟨u2, rfl, ho2, hb2⟩
          have hb3 : Hid (Below w.heap.size w w2) := Lib.hid (bt hb.out hb2)
          clear hb2 ho2
          go_wp2_with fail
          go_ret2
          exact RP.no hfin.out hb3.out
        · rw [hrd] at CN
          by_cases h7 : ns.length = 7
          · obtain ⟨a, b, c, d, e, f, h, rfl⟩ := La.seven h7
            have hn : Hid (La.mpy (P.take (k + 1)) = some (zs ++ [⟨a, b, c, d, e, f, h⟩])) := Lib.hid (by rw [hsn.out]; exact La.mpy_snoc hmp.out (La.ry_y hrd))
            clear hrd h7
            go_wp2_with fail
            refine CN.out.mono ?_
            rintro e' w2 ⟨u2, rfl, ho2, hb2⟩
            obtain ⟨g1, cap1, rfl, hc⟩ := own_nums ho2 (by simp)
            have hg1 := World.ownsRow.lt ho2 g1 rfl
            have e0 : w2.cell? ⟨g1, 0, none⟩ = some (.int .i64 a) := hc 0 _ rfl
            have e1 : w2.cell? ⟨g1, 1, none⟩ = some (.int .i64 b) := hc 1 _ rfl
            have e2 : w2.cell? ⟨g1, 2, none⟩ = some (.int .i64 c) := hc 2 _ rfl
            have e3 : w2.cell? ⟨g1, 3, none⟩ = some (.int .i64 d) := hc 3 _ rfl
            have e4 : w2.cell? ⟨g1, 4, none⟩ = some (.int .i64 e) := hc 4 _ rfl
            have e5 : w2.cell? ⟨g1, 5, none⟩ = some (.int .i64 f) := hc 5 _ rfl
            have e6 : w2.cell? ⟨g1, 6, none⟩ = some (.int .i64 h) := hc 6 _ rfl
            have hln : ((some [a, b, c, d, e, f, h]).getD []).length = 7 := rfl
            rw [hln]
            have hb3 : Hid (Below w.heap.size w w2) := Lib.hid (bt hb.out hb2)
            have ho3 : Hid (LOwn w.heap.size w2 u zs) := Lib.hid (ho.out.belowAll hb2)
            have hp3 := Lib.hid (hpc.out.below hb2)
            have hub : Hid (∀ j, u.ownBlock = some j → w.heap.size ≤ j ∧ j < wr.heap.size) := Lib.hid (fun j hj => World.ownsRow.lt ho.out j hj)
            have ho4 : Hid ((w2.alloc (.cells #[.int .i64 a, .int .i64 b, .int .i64 c, .int .i64 d, .int .i64 e, .int .i64 f, .int .i64 h] 56)).drew.ownsRow w.heap.size 56 7 u zs.length (iv (La.fl zs))) := Lib.hid (ownsRow_drew (ho3.out.alloc _))
            have hcn : Hid (∀ j z, (iv (La.lv ⟨a, b, c, d, e, f, h⟩))[j]? = some z → (w2.alloc (.cells #[.int .i64 a, .int .i64 b, .int .i64 c, .int .i64 d, .int .i64 e, .int .i64 f, .int .i64 h] 56)).drew.cell? ((⟨w2.heap.size, 0, none⟩ : Addr).add j) = some z) := Lib.hid (World.news_of_block (cs := #[.int .i64 a, .int .i64 b, .int .i64 c, .int .i64 d, .int .i64 e, .int .i64 f, .int .i64 h]) (whole_drew (Whole.new w2 _ _)))
            have hFAR : Hid (∀ w4, (w2.alloc (.cells #[.int .i64 a, .int .i64 b, .int .i64 c, .int .i64 d, .int .i64 e, .int .i64 f, .int .i64 h] 56)).drew.grownBy w4 u.ownBlock → (∀ j x, ([a, b, c, d, e, f, h])[j]? = some x → w4.cell? ⟨g1, j, none⟩ = some (.int .i64 x)) ∧ PC P g w4 ∧ Below w.heap.size w w4) := Lib.hid (by
              intro w4 hgw
              have bb : Below w2.heap.size w2 (w2.alloc (.cells #[.int .i64 a, .int .i64 b, .int .i64 c, .int .i64 d, .int .i64 e, .int .i64 f, .int .i64 h] 56)).drew := bt ((Below.refl _ _).alloc (Nat.le_refl _) _) (below_drew1 _)
              refine ⟨fun j x hj => ?_, (hp3.out.below bb).grow hgw hnb.out, (bt hb3.out bb).grown hgw (Nat.le_trans hb3.out.size bb.size) (fun j hj => (hub.out j hj).1)⟩
              rw [hgw.cell_far ⟨g1, j, none⟩ (Nat.lt_of_lt_of_le hg1.2 bb.size) (fun hh => by have := (hub.out g1 hh.symm).2; have := hg1.1; omega), bb.cell (p := ⟨g1, j, none⟩) hg1.2]
              exact hc j x hj)
            have hg2 : Hid (g < w2.heap.size) := Lib.hid hp3.out.1
            clear ho2 hb2 hc hln CN hg1
            go_wp2_with fail
            go_region_held3 (fun w' => w'.cell? ⟨g1, 0, none⟩ = some (.int .i64 a) ∧ w'.cell? ⟨g1, 1, none⟩ = some (.int .i64 b) ∧ w'.cell? ⟨g1, 2, none⟩ = some (.int .i64 c) ∧ w'.cell? ⟨g1, 3, none⟩ = some (.int .i64 d) ∧ w'.cell? ⟨g1, 4, none⟩ = some (.int .i64 e) ∧ w'.cell? ⟨g1, 5, none⟩ = some (.int .i64 f) ∧ w'.cell? ⟨g1, 6, none⟩ = some (.int .i64 h)) (go_keep)
              (first
                | (refine step_append_lies _ (by rfl) _ _ 36 (by rfl) w.heap.size 56 i0 _ 7 56 Tryd.underlying36 hi hz0 hz1 hz2 rfl (by decide) u zs.length (iv (La.fl zs)) (by rfl) ho4.out ⟨w2.heap.size, 0, none⟩ 1 1 (iv (La.lv ⟨a, b, c, d, e, f, h⟩)) (by rfl) (by rfl) hcn.out (one_lay _) (by decide) (by unfold maxLen; omega) (by omega) (by have := hb3.out.size; simp; omega) (w2.heap.size + 1) (by simp) ?_; intro gg cap4 w4 hown hgrow hat hlt4; obtain ⟨ff, hp4, hb4⟩ := hFAR.out w4 hgrow; have q0 : w4.cell? ⟨g1, 0, none⟩ = some (.int .i64 a) := ff 0 _ rfl; have q1 : w4.cell? ⟨g1, 1, none⟩ = some (.int .i64 b) := ff 1 _ rfl; have q2 : w4.cell? ⟨g1, 2, none⟩ = some (.int .i64 c) := ff 2 _ rfl; have q3 : w4.cell? ⟨g1, 3, none⟩ = some (.int .i64 d) := ff 3 _ rfl; have q4 : w4.cell? ⟨g1, 4, none⟩ = some (.int .i64 e) := ff 4 _ rfl; have q5 : w4.cell? ⟨g1, 5, none⟩ = some (.int .i64 f) := ff 5 _ rfl; have q6 : w4.cell? ⟨g1, 6, none⟩ = some (.int .i64 h) := ff 6 _ rfl; clear ff))
            have hnx : Hid (LOwn w.heap.size w4 (.slice (some ⟨gg, 0, none⟩) (zs.length + 1) cap4) (zs ++ [⟨a, b, c, d, e, f, h⟩])) := Lib.hid (own_push hown)
            have hnn : Hid ((Value.slice (some ⟨gg, 0, none⟩) (zs.length + 1) cap4).ownBlock ≠ some g) := Lib.hid (fun hh => by
              have h1 := own_litB _ _ _ _ hh
              subst h1
              rcases hat with hat | hat
              · exact hnb.out hat
              · have := hg2.out; omega)
            have HP4 := Lib.hid hp4
            have HB4 := Lib.hid hb4
            clear hown hgrow hat hlt4 ho hb ho3 hb3 hp4 hb4 hFAR hcn ho4 hp3 q0 q1 q2 q3 q4 q5 q6 e0 e1 e2 e3 e4 e5 e6
            go_wp2
            exact ⟨⟨k + 1, zs ++ [⟨a, b, c, d, e, f, h⟩], _, by omega, by rw [List.length_append, HZK.out]; rfl, by go_num, rfl, hnx, HB4, HP4, hnn, hn⟩, by simp only [intOf]; omega⟩
          · have hfin : Hid (o = none) := Lib.hid (by rw [hr.out, La.mpy_none HMem.out (La.ry_len hrd h7)]; rfl)
            have hne : ((ns.length : Int) == 7) = false := beq_eq_false_iff_ne.2 (by omega)
            have hne2 : ((ns.length : Int) != 7) = true := by rw [bne, hne]; rfl
            clear hrd h7
            go_wp2_with fail
            refine CN.out.mono ?_
            rintro e w2 ⟨u2, rfl, ho2, hb2⟩
            have hb3 : Hid (Below w.heap.size w w2) := Lib.hid (bt hb.out hb2)
            obtain ⟨aa, cap1, rfl⟩ := ho2.sl.form
            simp only [Option.getD_some, Option.isSome_some] at *
            clear hb2 ho2
            go_wp2_with fail
            go_ret2
            exact RP.no hfin.out hb3.out
      · have hke : k = P.length := by omega
        have hm2 : La.mpy P = some zs := by have := hmp.out; rw [hke, List.take_length] at this; exact this
        have hfin : Hid (o = La.vp (some zs)) := Lib.hid (by rw [hr.out, hm2])
        have CV := Lib.hid (l03Ok_any wr u zs ho.out.sl (hroom.out zs hm2))
        clear hke hm2
        cases hq : La.okP zs with
        | false =>
          have hf2 := Lib.hid (hfin.out.trans (La.vp_bad hq))
          rw [hq] at CV
          clear hq
          go_wp2_with fail
          refine CV.out.mono ?_
          rintro e w2 ⟨rfl, rfl⟩
          go_wp2_with fail
          go_ret2
          exact RP.no hf2.out hb.out
        | true =>
          have hf2 := Lib.hid (hfin.out.trans (La.vp_ok hq))
          rw [hq] at CV
          clear hq
          go_wp2_with fail
          refine CV.out.mono ?_
          rintro e w2 ⟨rfl, rfl⟩
          go_wp2_with fail
          go_ret2
          exact RP.yes hf2.out ho.out hb.out
set_option maxHeartbeats 800000 in
theorem specReadProfile_any (s : ByteArray) (w : World) (hs : s.size ≤ 1048576) :
    Calls Tryd.prog 21 #[.string s] w (RP w (La.rp s.data.toList)) := by
  have C := Lib.hid (l03Read_any s w hs)
  generalize La.rp s.data.toList = o at *
  go_enter Tryd.func21, Tryd.ntmps21
  go_wp2_with fail
  refine C.out.mono ?_
  rintro e w1 ⟨u, rfl, ho, b1⟩
  have HO := Lib.hid ho
  have B1 := Lib.hid b1
  clear ho b1
  go_wp2_with fail
  go_ret2
  exact ⟨_, rfl, HO.out, B1.out⟩
end Go.Proofs.YtmieckchppfogaaDoor

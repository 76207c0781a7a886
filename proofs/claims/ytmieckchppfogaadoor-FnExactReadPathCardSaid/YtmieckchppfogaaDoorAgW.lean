/-
  A path read back out of its text, by the model (chapter 14). No condition of its own.
-/
import Derived.Test.YtmieckchppfogaaDoorAgU
import Derived.Maps.AppendAt
import Derived.Deep.AppendLies
namespace Go.Proofs.YtmieckchppfogaaDoor
open Go.RowKit Go.ChangeShapes Go.WideShapes Go.Deep Go.Shelf
set_option linter.unusedVariables false
set_option maxRecDepth 100000

namespace An
theorem rq_one {p : List UInt8} (h : (58 : UInt8) ∉ p) : rq p = none := by
  have e : cb p = [] := by unfold cb; rw [cut_miss h]
  have n : Nu.rd (cb p) = none := by rw [e]; decide
  unfold rq
  split
  · next a b ha hb => rw [n] at hb; cases hb
  · rfl
theorem rq_many {a r : List UInt8} (h : (58 : UInt8) ∉ a) (hr : (58 : UInt8) ∈ r) : rq (a ++ 58 :: r) = none := by
  have e : cb (a ++ 58 :: r) = r := by unfold cb; rw [cut_hit h]
  have n : Nu.rd (cb (a ++ 58 :: r)) = none := by rw [e]; exact rd_odd hr (by decide) (by decide)
  unfold rq
  split
  · next x y hx hy => rw [n] at hy; cases hy
  · rfl
theorem rq_two {a r : List UInt8} (h : (58 : UInt8) ∉ a) : rq (a ++ 58 :: r) = match Nu.rd a, Nu.rd r with | some d, some y => some ⟨d, y⟩ | _, _ => none := by
  have e1 : ca (a ++ 58 :: r) = a := by unfold ca; rw [cut_hit h]
  have e2 : cb (a ++ 58 :: r) = r := by unfold cb; rw [cut_hit h]
  unfold rq; rw [e1, e2]
  cases Nu.rd a <;> cases Nu.rd r <;> rfl
/-- a part that holds something leaves room for fewer parts -/
theorem spl_room (c : UInt8) : ∀ l : List UInt8, (∃ p ∈ spl c l, p ≠ []) → (spl c l).length ≤ l.length
  | [], ⟨p, h, hn⟩ => by simp [spl] at h; exact absurd h hn
  | x :: r, ⟨p, h, hn⟩ => by
    have hl := spl_len c r
    rw [spl] at h ⊢
    split
    · rename_i hx
      rw [if_pos hx] at h
      rcases List.mem_cons.1 h with h | h
      · exact absurd h hn
      · have := spl_room c r ⟨p, h, hn⟩
        simp; omega
    · split
      · simp
      · rename_i q ps hq; rw [hq] at hl; simp at hl ⊢; omega
theorem parts_room {l : List UInt8} {zs : List Pth} (h : mpq (spl 32 l) = some zs) : zs.length ≤ l.length := by
  rw [mpq_len h]
  refine spl_room 32 l ?_
  have hpos := List.length_pos_iff.2 (spl_ne 32 l)
  refine ⟨(spl 32 l)[0], List.getElem_mem hpos, fun e => ?_⟩
  have := mpq_none (List.getElem_mem hpos) (by rw [e]; exact rq_nil)
  rw [h] at this; cases this
end An
def PCq (P : List (List UInt8)) (g : Nat) (W : World) : Prop := g < W.heap.size ∧ ∀ j b, P[j]? = some b → W.cell? ⟨g, j, none⟩ = some (.string ⟨b.toArray⟩)
theorem PCq.below {P : List (List UInt8)} {g : Nat} {W W1 : World} (h : PCq P g W) (hb : Below W.heap.size W W1) : PCq P g W1 :=
  ⟨Nat.lt_of_lt_of_le h.1 hb.size, fun j b hj => (hb.cell (p := ⟨g, j, none⟩) h.1).trans (h.2 j b hj)⟩
theorem PCq.grow {P : List (List UInt8)} {g : Nat} {W W1 : World} {r : Option Nat} (h : PCq P g W) (hb : W.grownBy W1 r) (hr : r ≠ some g) : PCq P g W1 :=
  ⟨Nat.lt_of_lt_of_le h.1 hb.size, fun j b hj => (hb.cell_far ⟨g, j, none⟩ h.1 (Ne.symm hr)).trans (h.2 j b hj)⟩
theorem ownq_litB (g j n c : Nat) (h : (Value.slice (some ⟨g, 0, none⟩) n c).ownBlock = some j) : j = g := by simp [Value.ownBlock] at h; omega
set_option maxHeartbeats 6400000 in
theorem l14Read_any (s : ByteArray) (w : World) (hs : s.size ≤ 1048576) :
    Calls Tryd.prog 32 #[.string s] w (RPq w (An.rp s.data.toList)) := by
  obtain ⟨i0, hi, hz0, hz1, hz2⟩ := info_parts info_PathPoint
  have hsl : s.data.toList.length = s.size := by simp
  have hr : Hid (An.rp s.data.toList = An.vq (An.mpq (spl 32 s.data.toList))) := Lib.hid rfl
  have hroom : Hid (∀ zs, An.mpq (spl 32 s.data.toList) = some zs → zs.length ≤ 1048576) := Lib.hid (fun zs h => by have := An.parts_room h; omega)
  have hpl := Lib.hid (spl_part_len 32 s.data.toList)
  have hPl : (spl 32 s.data.toList).length ≤ 1048577 := by have := spl_len 32 s.data.toList; omega
  have B0 : Hid (Below w.heap.size w (w.alloc (.cells #[] 45))) := Lib.hid ((Below.refl _ _).alloc (Nat.le_refl _) _)
  have C := Lib.hid (l01Split_any s 32 (w.alloc (.cells #[] 45)) hs)
  have hlen := Lib.hid (show s.data.toList.length ≤ 1048576 by omega)
  have hpos := List.length_pos_iff.2 (spl_ne 32 s.data.toList)
  clear hsl
  generalize An.rp s.data.toList = o at *
  generalize spl 32 s.data.toList = P at *
  go_enter Tryd.func32, Tryd.ntmps32
  go_wp2_with fail
  refine C.out.mono ?_
  rintro e w1 ⟨v, rfl, hst, hb1⟩
  have HPC : Hid (∃ g cap, v = .slice (some ⟨g, 0, none⟩) P.length cap ∧ w.heap.size < g ∧ PCq P g w1) := Lib.hid (by
    obtain ⟨g, cap, hv, hg, hc⟩ := strs_form hst hpos
    subst hv
    have := (World.ownsRow.lt hst g rfl).1
    simp at this
    exact ⟨g, cap, rfl, by omega, hg, hc⟩)
  obtain ⟨g, cap, rfl, hg, hpc⟩ := HPC.out
  have HB1 : Hid (Below w.heap.size w w1) := Lib.hid (bt B0.out hb1)
  have HO1 : Hid (PpOwn w.heap.size w1 (.slice (some ⟨w.heap.size, 0, none⟩) 0 0) []) := Lib.hid (PpOwn.belowAll (ppOwn_lit0 w) hb1)
  have HP1 := Lib.hid hpc
  have HN1 : Hid ((Value.slice (some ⟨w.heap.size, 0, none⟩) 0 0).ownBlock ≠ some g) := Lib.hid (fun h => by have := ownq_litB _ _ _ _ h; omega)
  clear hst hb1 HPC hpc hpos
  go_wp2
  go_loopw [4, 6] (fun ov iv wr => ∃ (k : Nat) (zs : List Pth) (u : Value), k ≤ P.length ∧ zs.length = k ∧ iv = .int .i64 k ∧ u = ov ∧ Hid (PpOwn w.heap.size wr u zs) ∧ Hid (Below w.heap.size w wr) ∧ Hid (PCq P g wr) ∧ Hid (u.ownBlock ≠ some g) ∧ Hid (An.mpq (P.take k) = some zs)) (fun _ iv _ => P.length - (intOf iv).toNat)
  case atStart => exact ⟨0, [], _, Nat.zero_le _, rfl, rfl, rfl, HO1, HB1, HP1, HN1, Lib.hid rfl⟩
  case round =>
    obtain ⟨k, zs, u, hk, hzk, rfl, rfl, ho, hb, hpc, hnb, hmp⟩ := hrel
    have HZK := Lib.hid hzk
    have hzk' : zs.length ≤ 1048577 := by omega
    clear hzk
    by_cases hlt : k < P.length
    · have c1 : wr.cell? ⟨g, k, none⟩ = some (.string ⟨(P[k]).toArray⟩) := hpc.out.2 k _ (List.getElem?_eq_getElem hlt)
      have hgr : g < wr.heap.size := hpc.out.1
      have hpn : (P[k]).length ≤ 1048576 := by have := hpl.out P[k] (List.getElem_mem hlt); have := hlen.out; omega
      have HMem := Lib.hid (List.getElem_mem hlt)
      have hsn : Hid (P.take (k + 1) = P.take k ++ [P[k]]) := Lib.hid (by rw [List.take_succ_eq_append_getElem hlt])
      generalize P[k] = p at *
      have CS := Lib.hid (by
        have h := l01Split_any ⟨p.toArray⟩ 58 wr (by rw [sz_mk]; exact hpn)
        simpa using h : Calls Tryd.prog 55 #[.string ⟨p.toArray⟩, .int .u8 58] wr fun e w' => ∃ v, e = .returned v ∧ Strs wr.heap.size w' v (spl 58 p) ∧ Below wr.heap.size wr w')
      have NOQ := Lib.hid (fun (h : An.rq p = none) => (by rw [hr.out, An.mpq_none HMem.out h]; rfl : o = none))
      have hpos2 := List.length_pos_iff.2 (spl_ne 58 p)
      rcases spl_two 58 p with ⟨hmi, hsp⟩ | ⟨a, r, hpe, hna, hnr, hsp⟩ | ⟨a, r, hpe, hna, hir, hsp⟩
      · have hfin := Lib.hid (NOQ.out (An.rq_one hmi))
        rw [hsp] at CS
        clear hmi hsp NOQ hpos2
        go_wp2_with fail
        refine CS.out.mono ?_
        rintro e w2 ⟨v2, rfl, hst2, hb2⟩
        obtain ⟨g2, cap2, rfl, -, -⟩ := strs_form hst2 (by simp)
        have hb3 : Hid (Below w.heap.size w w2) := Lib.hid (bt hb.out hb2)
        clear hst2 hb2
        go_wp2_with fail
        go_ret2
        exact RPq.no hfin.out hb3.out
      · have hln : Hid ((spl 58 p).length = 2) := Lib.hid (by rw [hsp]; rfl)
        have hal : a.length ≤ 1048576 := by rw [hpe] at hpn; simp at hpn; omega
        have hrl : r.length ≤ 1048576 := by rw [hpe] at hpn; simp at hpn; omega
        have RQ := Lib.hid (An.rq_two (r := r) hna)
        rw [← hpe] at RQ
        rw [hsp] at CS
        have NA := Lib.hid (fun W => number_at a hal W)
        have NR := Lib.hid (fun W => number_at r hrl W)
        clear hna hnr hsp hpe hpos2 hal hrl
        go_wp2_with fail
        refine CS.out.mono ?_
        rintro e w2 ⟨v2, rfl, hst2, hb2⟩
        obtain ⟨g2, cap2, rfl, -, hc2⟩ := strs_form hst2 (by simp)
        have x0 : w2.cell? ⟨g2, 0, none⟩ = some (.string ⟨a.toArray⟩) := hc2 0 a rfl
        have x1 : w2.cell? ⟨g2, 1, none⟩ = some (.string ⟨r.toArray⟩) := hc2 1 r rfl
        have hb3 : Hid (Below w.heap.size w w2) := Lib.hid (bt hb.out hb2)
        have ho3 : Hid (PpOwn w.heap.size w2 u zs) := Lib.hid (ho.out.belowAll hb2)
        have hp3 := Lib.hid (hpc.out.below hb2)
        have hub : Hid (∀ j, u.ownBlock = some j → w.heap.size ≤ j ∧ j < w2.heap.size) := Lib.hid (fun j hj => World.ownsRow.lt ho3.out j hj)
        have h2l : ([a, r] : List (List UInt8)).length = 2 := rfl
        rw [h2l]
        clear hst2 hb2 hc2 CS
        have hbs3 := hb3.out.size
        rcases hra : Nu.rd a with _ | d
        · have hfin := Lib.hid (NOQ.out (by rw [RQ.out, hra]))
          rw [hra] at NA
          simp only [Option.getD_none, Option.isSome_none] at NA
          clear hra RQ NOQ
          generalize (Nu.rd r).getD 0 = yy at *
          generalize (Nu.rd r).isSome = qq at *
          go_wp2_with fail
          refine (NA.out _).mono ?_
          rintro e w3 ⟨rfl, rfl⟩
          go_wp2_with fail
          refine (NR.out _).mono ?_
          rintro e w3 ⟨rfl, rfl⟩
          go_wp2_with fail
          go_ret2
          exact RPq.no hfin.out hb3.out
        · rcases hrr : Nu.rd r with _ | y
          · have hfin := Lib.hid (NOQ.out (by rw [RQ.out, hra, hrr]))
            rw [hra] at NA
            rw [hrr] at NR
            simp only [Option.getD_none, Option.isSome_none, Option.getD_some, Option.isSome_some] at NA NR
            clear hra hrr RQ NOQ
            go_wp2_with fail
            refine (NA.out _).mono ?_
            rintro e w3 ⟨rfl, rfl⟩
            go_wp2_with fail
            refine (NR.out _).mono ?_
            rintro e w3 ⟨rfl, rfl⟩
            go_wp2_with fail
            go_ret2
            exact RPq.no hfin.out hb3.out
          · have hn : Hid (An.mpq (P.take (k + 1)) = some (zs ++ [⟨d, y⟩])) := Lib.hid (by rw [hsn.out]; exact An.mpq_snoc hmp.out (by rw [RQ.out, hra, hrr]))
            rw [hra] at NA
            rw [hrr] at NR
            simp only [Option.getD_some, Option.isSome_some] at NA NR
            clear hra hrr RQ NOQ
            go_wp2_with fail
            refine (NA.out _).mono ?_
            rintro e w3 ⟨rfl, rfl⟩
            go_wp2_with fail
            refine (NR.out _).mono ?_
            rintro e w3 ⟨rfl, rfl⟩
            go_wp2_with (at_builtin; refine wpList_append_own_at _ rfl _ _ 25 rfl w.heap.size 45 i0 _ 2 16 Tryd.underlying25 hi hz0 hz1 hz2 rfl (by decide) _ _ _ rfl (ho3.out.alloc _) ⟨w2.heap.size, 0, none⟩ 1 1 (iv (Pp.lv ⟨d, y⟩)) rfl rfl (row_new _ (iv (Pp.lv ⟨d, y⟩)) _) (onePt ⟨d, y⟩) ?c3 ?c4 ?c5 ?_)
            case c3 => unfold maxLen; omega
            case c4 => omega
            case c5 => first | omega | (simp; omega)
            intro v' w4 hown' hgrow _ hat
            have hnx : Hid (PpOwn w.heap.size w4 v' (zs ++ [⟨d, y⟩])) := Lib.hid (ppOwn_push hown')
            have hnbb : Hid (Below w.heap.size w w4) := Lib.hid ((hb3.out.alloc hbs3 _).grown hgrow (by simp; omega) (fun j hj => (hub.out j hj).1))
            have hp4 : Hid (PCq P g w4) := Lib.hid ((hp3.out.below ((Below.refl _ _).alloc (Nat.le_refl _) _)).grow hgrow hnb.out)
            have hnn : Hid (v'.ownBlock ≠ some g) := Lib.hid (fun hh => by
              rcases hat with hat | hat
              · exact hnb.out (hat.symm.trans hh)
              · rw [hat] at hh
                have h5 := hp3.out.1
                simp at hh; omega)
            clear hown' hgrow hat ho hb ho3 hb3 hp3 x0 x1
            go_wp2
            exact ⟨⟨k + 1, zs ++ [⟨d, y⟩], _, by omega, by rw [List.length_append, HZK.out]; rfl, by go_num, rfl, hnx, hnbb, hp4, hnn, hn⟩, by simp only [intOf]; omega⟩
      · have hfin := Lib.hid (NOQ.out (by rw [hpe]; exact An.rq_many hna hir))
        have hne : (((spl 58 p).length : Int) == 2) = false := beq_eq_false_iff_ne.2 (by omega)
        have hne2 : (((spl 58 p).length : Int) != 2) = true := by rw [bne, hne]; rfl
        clear hna hir hpe NOQ hsp
        generalize spl 58 p = L at *
        go_wp2_with fail
        refine CS.out.mono ?_
        rintro e w2 ⟨v2, rfl, hst2, hb2⟩
        obtain ⟨g2, cap2, rfl, -, -⟩ := strs_form hst2 hpos2
        have hb3 : Hid (Below w.heap.size w w2) := Lib.hid (bt hb.out hb2)
        clear hst2 hb2 hpos2
        generalize L.length = n2 at *
        go_wp2_with fail
        go_ret2
        exact RPq.no hfin.out hb3.out
    · have hke : k = P.length := by omega
      have hm2 : An.mpq P = some zs := by have := hmp.out; rw [hke, List.take_length] at this; exact this
      have hfin : Hid (o = An.vq (some zs)) := Lib.hid (by rw [hr.out, hm2])
      have CV := Lib.hid (l14Ok_any wr u zs ho.out.sl (hroom.out zs hm2))
      clear hke hm2
      cases hq : An.okB zs with
      | false =>
        have hf2 := Lib.hid (hfin.out.trans (An.vq_bad hq))
        rw [hq] at CV
        clear hq
        go_wp2_with fail
        refine CV.out.mono ?_
        rintro e w2 ⟨rfl, b2⟩
        have B2 := Lib.hid (bt hb.out b2)
        clear b2
        go_wp2_with fail
        go_ret2
        exact RPq.no hf2.out B2.out
      | true =>
        have hf2 := Lib.hid (hfin.out.trans (An.vq_ok hq))
        rw [hq] at CV
        clear hq
        go_wp2_with fail
        refine CV.out.mono ?_
        rintro e w2 ⟨rfl, b2⟩
        have B2 := Lib.hid (bt hb.out b2)
        have O2 := Lib.hid (ho.out.belowAll b2)
        clear b2
        go_wp2_with fail
        go_ret2
        exact RPq.yes hf2.out O2.out B2.out
set_option maxHeartbeats 800000 in
theorem specReadPath_any (s : ByteArray) (w : World) (hs : s.size ≤ 1048576) :
    Calls Tryd.prog 12 #[.string s] w (RPq w (An.rp s.data.toList)) := by
  have C := Lib.hid (l14Read_any s w hs)
  unfold RPq at C
  clear hs
  go_enter Tryd.func12, Tryd.ntmps12
  go_wp2_with fail
  refine C.out.mono ?_
  rintro e w1 ⟨u, rfl, o1, b1⟩
  have B1 := Lib.hid b1
  have O1 := Lib.hid o1
  clear b1 o1
  go_wp2_with fail
  go_ret2
  exact ⟨u, rfl, O1.out, B1.out⟩
end Go.Proofs.YtmieckchppfogaaDoor

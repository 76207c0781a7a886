/-
  Peaks and pits by the program (chapter 9). The conditions: the table of ways as it is laid.
-/
import Derived.Test.YthcmpalbhaefbaaDoorPpA
namespace Go.Proofs.YthcmpalbhaefbaaDoor
open Go.RowKit Go.Shelf Go.Deep
set_option linter.unusedVariables false
set_option maxRecDepth 100000
set_option maxHeartbeats 1600000 in
theorem collectSteps_any (w : World) (R C k g0 L cap g cap' q qt : Nat) (s : Int) (zs : List Int) (G : Gw.Good R C s zs) (hk : k < zs.length) (SK0 : SK w.heap.size w R C k g0 0 L cap g cap' q qt s zs) (hA : AspAt w) :
    Calls Tryd.prog 105 #[.func (.func 96) #[] #[.pointer (some ⟨q, 0, none⟩), .pointer (some ⟨qt, 0, none⟩)]] w fun e w' =>
      ∃ a cp, e = .returned (.slice a ((Gw.dirs R C k).map (Gw.gsOf R C s zs k)).length cp) ∧ GpSl w' (.slice a ((Gw.dirs R C k).map (Gw.gsOf R C s zs k)).length cp) ((Gw.dirs R C k).map (Gw.gsOf R C s zs k)) ∧ Below w.heap.size w w' := by
  have A := Lib.hid (callsIn_wide.1 (appendSteps_in 3 (Nat.le_refl _) w R C k g0 L cap g cap' q qt s zs G hk SK0 hA))
  clear SK0 hA
  generalize (Gw.dirs R C k).map (Gw.gsOf R C s zs k) = l at *
  go_enter Tryd.func105, Tryd.ntmps105
  go_wp2_with fail
  refine A.out.mono ?_
  rintro e w1 ⟨v, rfl, hw, b1⟩
  have HS := Lib.hid hw.sl
  obtain ⟨a, cp, rfl⟩ := hw.sl.form
  have B1 := Lib.hid b1
  clear hw b1 A
  go_wp2_with fail
  go_ret
  exact ⟨a, cp, rfl, HS.out, B1.out⟩
theorem leadsUp_any (w : World) (a p q d f : Int) :
    Calls Tryd.prog 56 #[.agg #[.int .i64 a, .int .i64 p, .int .i64 q, .int .i64 d, .int .i64 f]] w fun e w' => e = .returned (.bool (decide (d < 0))) ∧ Below w.heap.size w w' := by
  have B := Lib.hid ((Below.refl w.heap.size w).alloc (Nat.le_refl _) (.cells #[.int .i64 a, .int .i64 p, .int .i64 q, .int .i64 d, .int .i64 f] 74))
  go_enter Tryd.func56, Tryd.ntmps56
  go_wp2_with fail
  go_ret
  exact ⟨rfl, B.out⟩
namespace Gw
/-- is no step from a cell of a kind? -/
def woB (f : Int → Bool) (r c : Int) (zs : List Int) (k : Nat) : Bool := !(dirs r c k).any (fun a => f (drp zs k (goC r c k a).toNat))
theorem wo_map (f : Int → Bool) (r c s : Int) (zs : List Int) (k : Nat) : (((dirs r c k).map (gsOf r c s zs k)).any fun x => f x.fa) = (dirs r c k).any (fun a => f (drp zs k (goC r c k a).toNat)) := by
  rw [List.any_map]; rfl
def woL (f : Int → Bool) (r c s : Int) (zs : List Int) : List Int := if ok r c s zs = true then stF (woB f r c zs) zs.length else []
theorem wo_no {f : Int → Bool} {r c s : Int} {zs : List Int} (h : ok r c s zs = false) : woL f r c s zs = [] ∧ vC r c s zs = 1 := by unfold woL vC; rw [h]; exact ⟨rfl, rfl⟩
theorem wo_yes {f : Int → Bool} {r c s : Int} {zs : List Int} (h : ok r c s zs = true) : woL f r c s zs = stF (woB f r c zs) zs.length ∧ vC r c s zs = 0 := by unfold woL vC; rw [h]; exact ⟨rfl, rfl⟩
end Gw
theorem Land.sk {w w' : World} {q R C g0 cap g cap' Bo k qf qt : Nat} {s : Int} {zs : List Int} (h : Land w q R C g0 cap g cap' Bo s zs) (hb : Below w.heap.size w w') (te : TeAt w' qt R C s (.slice (some ⟨g0, 0, none⟩) zs.length cap) (.slice (some ⟨g, 0, none⟩) R cap')) (fr : Whole w' qf 72 #[.int .i64 ((k : Int) / C), .int .i64 ((k : Int) % C)]) :
    SK w'.heap.size w' R C k g0 0 zs.length cap g cap' qf qt s zs :=
  ⟨te, fr, h.rw.all hb, fun j x hx => own_cells (h.ow.belowAll hb) j x hx, own_lt (h.ow.belowAll hb), (h.rw.all hb).1, fr.lt, te.lt⟩
set_option maxHeartbeats 6400000 in
theorem withoutLit_any (w : World) (q R C g0 cap g cap' Bo qk k : Nat) (s : Int) (zs : List Int) (G : Gw.Good R C s zs) (hk : k < zs.length) (hL : Land w q R C g0 cap g cap' Bo s zs) (h : Nat) (f : Int → Bool) (eg : ∀ args w, (callFunc h args).run Tryd.prog w = .ok (.enter h args) w)
    (hc : ∀ (W : World) (a p q d f' : Int), Calls Tryd.prog h #[.agg #[.int .i64 a, .int .i64 p, .int .i64 q, .int .i64 d, .int .i64 f']] W fun e w' => e = .returned (.bool (f d)) ∧ Below W.heap.size W w') (hf : w.cell? ⟨qk, 0, none⟩ = some (.func (.func h) #[] #[])) :
    Calls Tryd.prog 103 (#[.int .i64 (k : Int)] ++ #[.pointer (some ⟨q, 0, none⟩), .pointer (some ⟨qk, 0, none⟩)]) w fun e w' => e = .returned (.bool (Gw.woB f R C zs k)) ∧ Below w.heap.size w w' := by
  have hlen := G.len
  have c1 := G.c1; have c2 := G.c2
  have HL := Lib.hid hL
  have hqk := World.block_lt_of_cell? w _ hf
  have hdl := Gw.dirs_len R C k
  have CF := Lib.hid (fun W => stepsFrom_any W (R : Int) C s (.slice (some ⟨g0, 0, none⟩) zs.length cap) (.slice (some ⟨g, 0, none⟩) R cap') (k : Int) (by omega) (by omega) c1 c2)
  have CO := Lib.hid (fun W (hb : Below w.heap.size w W) (qf qt : Nat) (te : TeAt W qt R C s (.slice (some ⟨g0, 0, none⟩) zs.length cap) (.slice (some ⟨g, 0, none⟩) R cap')) (fr : Whole W qf 72 #[.int .i64 ((k : Int) / C), .int .i64 ((k : Int) % C)]) =>
    collectSteps_any W R C k g0 zs.length cap g cap' qf qt s zs G hk (HL.out.sk hb te fr) (HL.out.asp.below hb))
  have CN := Lib.hid (fun W v (hv : GpSl W v ((Gw.dirs R C k).map (Gw.gsOf R C s zs k))) => containsFuncGsp_any h #[] eg (fun x => f x.fa) W v _ (by rw [List.length_map]; omega) hv (fun x W' hW' => (hc W' x.di x.ro x.co x.fa x.sl).mono (fun e w' hh => ⟨hh.1, bt hW' hh.2⟩)))
  rw [Gw.wo_map] at CN
  have HE : Hid (Gw.woB f R C zs k = !(Gw.dirs R C k).any (fun a => f (Gw.drp zs k (Gw.goC R C k a).toNat))) := Lib.hid rfl
  rw [HE.out]
  generalize (Gw.dirs R C k).any (fun a => f (Gw.drp zs k (Gw.goC R C k a).toNat)) = ans at *
  generalize ((Gw.dirs R C k).map (Gw.gsOf R C s zs k)) = xs at *
  have KK := Lib.hid (fun W (hb : Below w.heap.size w W) => (⟨(hL.te.all hb).at_ 0, (hL.te.all hb).at_ 1, (hL.te.all hb).at_ 2, (hL.te.all hb).at_ 3, (hL.te.all hb).at_ 4, (hb.cell (p := ⟨qk, 0, none⟩) hqk).trans hf⟩ : W.cell? ⟨q, 0, none⟩ = some (.int .i64 R) ∧ W.cell? ⟨q, 1, none⟩ = some (.int .i64 C) ∧ W.cell? ⟨q, 2, none⟩ = some (.int .i64 s) ∧ W.cell? ⟨q, 3, none⟩ = some (.slice (some ⟨g0, 0, none⟩) zs.length cap) ∧ W.cell? ⟨q, 4, none⟩ = some (.slice (some ⟨g, 0, none⟩) R cap') ∧ W.cell? ⟨qk, 0, none⟩ = some (.func (.func h) #[] #[])))
  obtain ⟨x0, x1, x2, x3, x4, x5⟩ := KK.out w (Below.refl _ _)
  have BD : Hid (Below w.heap.size w w.drew) := Lib.hid (below_drewW w 1)
  clear hL hf hc HE c1 c2
  go_enter Tryd.func103, Tryd.ntmps103
  go_wp2_with fail
  go_region_held3 (fun w' => w'.cell? ⟨q, 0, none⟩ = some (.int .i64 R) ∧ w'.cell? ⟨q, 1, none⟩ = some (.int .i64 C) ∧ w'.cell? ⟨q, 2, none⟩ = some (.int .i64 s) ∧ w'.cell? ⟨q, 3, none⟩ = some (.slice (some ⟨g0, 0, none⟩) zs.length cap) ∧ w'.cell? ⟨q, 4, none⟩ = some (.slice (some ⟨g, 0, none⟩) R cap') ∧ w'.cell? ⟨qk, 0, none⟩ = some (.func (.func h) #[] #[])) (go_keep)
    (first
      | (go_at_call 104; with_reducible refine Calls.mono (CN.out wB _ HS.out) ?_; rintro e wC ⟨rfl, bC⟩; have BC := Lib.hid (bt BB.out bC); clear bC; obtain ⟨u0, u1, u2, u3, u4, u5⟩ := KK.out wC BC.out)
      | (go_at_call 105; with_reducible refine Calls.mono (CO.out wA BA.out _ _ TE.out FR.out) ?_; rintro e wB ⟨sa, sc, rfl, hs, bB⟩; have HS := Lib.hid hs; have BB := Lib.hid (bt BA.out bB); clear hs bB; obtain ⟨z0, z1, z2, z3, z4, z5⟩ := KK.out wB BB.out)
      | (go_at_call 49; refine (CF.out _).mono ?_; rintro e wA ⟨qf, rfl, te, fr, hq, bA⟩; have TE : Hid (TeAt wA w.heap.size R C s (.slice (some ⟨g0, 0, none⟩) zs.length cap) (.slice (some ⟨g, 0, none⟩) R cap')) := Lib.hid te; have FR := Lib.hid fr; have BA := Lib.hid (bt BD.out bA); clear te fr hq bA; obtain ⟨y0, y1, y2, y3, y4, y5⟩ := KK.out wA BA.out))
  all_goals (
    go_wp2_with fail
    go_ret
    exact ⟨rfl, BC.out⟩)
set_option maxHeartbeats 6400000 in
theorem cellsWithout_any (w : World) (r c s : Int) (v : Value) (zs : List Int) (ho : IAt w v zs) (hl : zs.length ≤ 1048576) (hA : AspAt w) (h : Nat) (f : Int → Bool) (eg : ∀ args w, (callFunc h args).run Tryd.prog w = .ok (.enter h args) w)
    (hc : ∀ (W : World) (a p q d f' : Int), Calls Tryd.prog h #[.agg #[.int .i64 a, .int .i64 p, .int .i64 q, .int .i64 d, .int .i64 f']] W fun e w' => e = .returned (.bool (f d)) ∧ Below W.heap.size W w') :
    Calls Tryd.prog 55 #[.agg #[.int .i64 r, .int .i64 c, .int .i64 s, v], .func (.func h) #[] #[]] w (RIp w (Gw.woL f r c s zs) (Gw.vC r c s zs)) := by
  obtain ⟨Bo, g0, cap, rfl, hown⟩ := ho
  have HB := Lib.hid (boxG_below w r c s (.slice (some ⟨g0, 0, none⟩) zs.length cap) 28)
  have B2 := Lib.hid (HB.out.alloc HB.out.size (.cells #[.func (.func h) #[] #[]] 81))
  have K2 : Hid (GC ((boxG w r c s (.slice (some ⟨g0, 0, none⟩) zs.length cap) 28).alloc (.cells #[.func (.func h) #[] #[]] 81)) w.heap.size r c s (.slice (some ⟨g0, 0, none⟩) zs.length cap)) := Lib.hid (boxG_kept ((Below.refl _ _).alloc (Nat.le_refl _) _))
  have F2 := Lib.hid (Whole.new (boxG w r c s (.slice (some ⟨g0, 0, none⟩) zs.length cap) 28) 81 #[.func (.func h) #[] #[]])
  rw [boxG_size] at F2
  have O2 := Lib.hid (hown.belowAll B2.out)
  have A2 := Lib.hid (hA.below B2.out)
  unfold boxG at K2 A2 O2 B2 F2
  clear hown hA HB
  obtain ⟨W2, hW2⟩ : ∃ u, (w.alloc (.cells #[.int .i64 r, .int .i64 c, .int .i64 s, .slice (some ⟨g0, 0, none⟩) zs.length cap] 28)).alloc (.cells #[.func (.func h) #[] #[]] 81) = u := ⟨_, rfl⟩
  rw [hW2] at K2 A2 O2 B2 F2
  have CV := Lib.hid (implValidGrid_any W2 r c s (.slice (some ⟨g0, 0, none⟩) zs.length cap) zs O2.out.sl hl)
  obtain ⟨k0, k1, k2, k3⟩ := K2.out.four
  have hkl := K2.out.lt
  cases hq : Gw.ok r c s zs with
  | false =>
    rw [hq] at CV
    rw [(Gw.wo_no (f := f) hq).1, (Gw.wo_no (f := f) hq).2]
    clear hq
    go_enter Tryd.func55, Tryd.ntmps55
    go_wp2_with fail
    refine CV.out.mono ?_
    rintro e w1 ⟨rfl, b1⟩
    have B1 := Lib.hid (bt B2.out b1)
    clear b1 k0 k1 k2 k3 hkl
    go_wp2_with fail
    go_ret2
    exact RIp.no B1.out
  | true =>
    have G := (Gw.ok_iff _ _ _ _).1 hq
    rw [hq] at CV
    have E := Lib.hid (Gw.wo_yes (f := f) hq)
    rw [E.out.1, E.out.2]
    obtain ⟨R, rfl⟩ : ∃ R : Nat, r = (R : Int) := ⟨r.toNat, (Int.toNat_of_nonneg (by have := G.r1; omega)).symm⟩
    obtain ⟨C, rfl⟩ : ∃ C : Nat, c = (C : Int) := ⟨c.toNat, (Int.toNat_of_nonneg (by have := G.c1; omega)).symm⟩
    have hlen := G.len
    have hL : zs.length = R * C := good_len G
    have g1 := G.r1; have g2 := G.r2; have g3 := G.c1; have g4 := G.c2
    have CT := Lib.hid (fun W (h : Below W2.heap.size W2 W) => terrainOf_any W R C g0 0 zs.length cap s hL (by omega) (own_cap O2.out) (by omega) (by omega) (by omega) (by omega))
    have GG := Lib.hid G
    have HC := Lib.hid hc
    have HEG := Lib.hid eg
    clear hq hL g1 g2 g3 g4 G hc eg E
    go_enter Tryd.func55, Tryd.ntmps55
    go_wp2_with fail
    refine CV.out.mono ?_
    rintro e w1 ⟨rfl, b1⟩
    have N1 := Lib.hid b1
    clear b1 k0 k1 k2 k3 hkl
    obtain ⟨k0, k1, k2, k3⟩ := (K2.out.all N1.out).four
    have hkl := (K2.out.all N1.out).lt
    go_wp2_with fail
    refine (CT.out _ N1.out).mono ?_
    rintro e w4 ⟨g, cap', rfl, hr, hg, b4⟩
    have N4 := Lib.hid (bt N1.out b4)
    have L5 := Lib.hid ((Below.refl w4.heap.size w4).alloc (Nat.le_refl _) (.cells #[.int .i64 R, .int .i64 C, .int .i64 s, .slice (some ⟨g0, 0, none⟩) zs.length cap, .slice (some ⟨g, 0, none⟩) R cap'] 52))
    have N5 := Lib.hid (bt N4.out L5.out)
    have LD : Hid (Land (w4.alloc (.cells #[.int .i64 R, .int .i64 C, .int .i64 s, .slice (some ⟨g0, 0, none⟩) zs.length cap, .slice (some ⟨g, 0, none⟩) R cap'] 52)) w4.heap.size R C g0 cap g cap' Bo s zs) := Lib.hid ⟨Whole.new w4 _ _, hr.all L5.out, O2.out.belowAll N5.out, A2.out.below N5.out⟩
    have F5 := Lib.hid (F2.out.all N5.out)
    clear b4 hr hg k0 k1 k2 k3 hkl
    go_wp2_with fail
    generalize w4.alloc (.cells #[.int .i64 R, .int .i64 C, .int .i64 s, .slice (some ⟨g0, 0, none⟩) zs.length cap, .slice (some ⟨g, 0, none⟩) R cap'] 52) = W5 at *
    have CW := Lib.hid (cellsWhere_any 103 #[.pointer (some ⟨w4.heap.size, 0, none⟩), .pointer (some ⟨w.heap.size + 1, 0, none⟩)] (Gw.woB f R C zs) W5 R C s (some ⟨g0, 0, none⟩) zs.length cap (.slice (some ⟨g, 0, none⟩) R cap') (enters_of Tryd.func103 (by kernel_rfl) rfl) hlen
      (fun k hk W hW => withoutLit_any W w4.heap.size R C g0 cap g cap' Bo (w.heap.size + 1) k s zs GG.out hk (LD.out.all hW) h f HEG.out HC.out ((F5.out.all hW).at_ 0)))
    refine CW.out.mono ?_
    rintro e w6 ⟨q, rfl, o6, b6⟩
    have B6 := Lib.hid (bt (bt B2.out N5.out) b6)
    have O6 := Lib.hid (Own.le o6 (bt B2.out N5.out).size)
    clear b6 o6 CW
    go_wp2_with fail
    exact bodyPost_ret (v := .tuple #[q, .int .i64 0]) (by simp [results, Tryd.results55, go_sem]) rfl (RIp.yes rfl rfl O6.out B6.out)
namespace Gw
def pkL (r c s : Int) (zs : List Int) : List Int := woL (fun d => decide (d < 0)) r c s zs
def ptL (r c s : Int) (zs : List Int) : List Int := woL (fun d => decide (0 < d)) r c s zs
theorem woL_len {f : Int → Bool} {r c s : Int} {zs : List Int} (h : zs.length ≤ 1048576) : (woL f r c s zs).length ≤ 1048576 := by
  unfold woL; split
  · exact Nat.le_trans (stF_len _ _) h
  · simp
theorem pkL_len {r c s : Int} {zs : List Int} (h : zs.length ≤ 1048576) : (pkL r c s zs).length ≤ 1048576 := woL_len h
theorem ptL_len {r c s : Int} {zs : List Int} (h : zs.length ≤ 1048576) : (ptL r c s zs).length ≤ 1048576 := woL_len h
end Gw
set_option maxHeartbeats 1600000 in
theorem implPeaksOf_any (w : World) (r c s : Int) (v : Value) (zs : List Int) (ho : IAt w v zs) (hl : zs.length ≤ 1048576) (hA : AspAt w) :
    Calls Tryd.prog 29 #[.agg #[.int .i64 r, .int .i64 c, .int .i64 s, v]] w (RIp w (Gw.pkL r c s zs) (Gw.vC r c s zs)) := by
  have HB := Lib.hid (boxG_below w r c s v 28)
  have C := Lib.hid (cellsWithout_any (boxG w r c s v 28) r c s v zs (ho.all HB.out) hl (hA.below HB.out) 56 (fun d => decide (d < 0)) (enters_of Tryd.func56 (by kernel_rfl) rfl) (fun W a p q d f' => leadsUp_any W a p q d f'))
  unfold boxG at C HB
  obtain ⟨Bo, g0, cap, rfl, hown⟩ := ho
  clear hown hA
  change Calls _ _ _ _ (RIp w (Gw.woL (fun d => decide (d < 0)) r c s zs) (Gw.vC r c s zs))
  generalize Gw.woL (fun d => decide (d < 0)) r c s zs = l at *
  generalize Gw.vC r c s zs = code at *
  go_enter Tryd.func29, Tryd.ntmps29
  go_wp2_with fail
  refine C.out.mono ?_
  rintro e w1 ⟨u, rfl, o1, b1⟩
  have O1 := Lib.hid (Own.le o1 HB.out.size)
  have B1 := Lib.hid (bt HB.out b1)
  obtain ⟨ua, ucap, rfl⟩ := (Own.sl o1).form
  clear o1 b1
  go_wp2_with fail
  go_ret2
  exact RIp.yes rfl rfl O1.out B1.out
set_option maxHeartbeats 1600000 in
theorem implPitsOf_any (w : World) (r c s : Int) (v : Value) (zs : List Int) (ho : IAt w v zs) (hl : zs.length ≤ 1048576) (hA : AspAt w) :
    Calls Tryd.prog 31 #[.agg #[.int .i64 r, .int .i64 c, .int .i64 s, v]] w (RIp w (Gw.ptL r c s zs) (Gw.vC r c s zs)) := by
  have HB := Lib.hid (boxG_below w r c s v 28)
  have C := Lib.hid (cellsWithout_any (boxG w r c s v 28) r c s v zs (ho.all HB.out) hl (hA.below HB.out) 58 (fun d => decide (0 < d)) (enters_of Tryd.func58 (by kernel_rfl) rfl) (fun W a p q d f' => leadsDown_any W a p q d f'))
  unfold boxG at C HB
  obtain ⟨Bo, g0, cap, rfl, hown⟩ := ho
  clear hown hA
  change Calls _ _ _ _ (RIp w (Gw.woL (fun d => decide (0 < d)) r c s zs) (Gw.vC r c s zs))
  generalize Gw.woL (fun d => decide (0 < d)) r c s zs = l at *
  generalize Gw.vC r c s zs = code at *
  go_enter Tryd.func31, Tryd.ntmps31
  go_wp2_with fail
  refine C.out.mono ?_
  rintro e w1 ⟨u, rfl, o1, b1⟩
  have O1 := Lib.hid (Own.le o1 HB.out.size)
  have B1 := Lib.hid (bt HB.out b1)
  obtain ⟨ua, ucap, rfl⟩ := (Own.sl o1).form
  clear o1 b1
  go_wp2_with fail
  go_ret2
  exact RIp.yes rfl rfl O1.out B1.out
end Go.Proofs.YthcmpalbhaefbaaDoor

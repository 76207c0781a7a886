/-
  Which assets are exposed (chapter 15), by the model and by the program. The conditions: no name and no list of cells is longer than 2^20; of the program's side, the library's table of de Bruijn as it is laid.
-/
import Derived.Test.YtaldmdammipfjaaDoorExE
import Derived.Test.YtaldmdammipfjaaDoorL11
import Derived.Test.YtaldmdammipfjaaDoorSumF
namespace Go.Proofs.YtaldmdammipfjaaDoor
open Go.RowKit Go.Shelf Go.Deep Go.Maps
set_option linter.unusedVariables false
set_option maxRecDepth 100000
/-- how a call ends that answers numbers and a code (as RIp) -/
def RIx (w : World) (l : List Int) (c : Int) (e : Ending) (w' : World) : Prop := ∃ u, e = .returned (.tuple #[u, .int .i64 c]) ∧ Own w.heap.size w' u l ∧ Below w.heap.size w w'
theorem RIx.no {w w' : World} {c : Int} (hb : Below w.heap.size w w') : RIx w [] c (.returned (.tuple #[.slice none 0 0, .int .i64 c])) w' := ⟨_, rfl, World.ownsRow_nil _ _ _ _, hb⟩
theorem RIx.yes {w w' : World} {u : Value} {l l' : List Int} {c c' : Int} (hl : l' = l) (hc : c = c') (ho : Own w.heap.size w' u l) (hb : Below w.heap.size w w') : RIx w l' c' (.returned (.tuple #[u, .int .i64 c])) w' := by
  subst hl hc; exact ⟨_, rfl, ho, hb⟩
namespace Ex
theorem hit_no {ks : List Int} {x : Ast} (h : ∀ j (hj : j < x.ce.length), ks.any (fun y => y == x.ce[j]) = false) : hit ks x = false := by
  unfold hit
  rw [List.any_eq_false]
  intro c hc
  obtain ⟨j, hj, rfl⟩ := List.getElem_of_mem hc
  rw [h j hj]; decide
theorem hit_yes {ks : List Int} {x : Ast} {j : Nat} (hj : j < x.ce.length) (h : ks.any (fun y => y == x.ce[j]) = true) : hit ks x = true := List.any_eq_true.2 ⟨_, List.getElem_mem hj, h⟩
end Ex
set_option maxHeartbeats 3200000 in
theorem l15Ask_any (w : World) (b : Nat) (r c s : Int) (v : Value) (zs : List Int) (u : Value) (xs : List Ast) (t : Value) (ks : List Int) (hg : GC w b r c s v) (hv : Sl w v zs) (hl : zs.length ≤ 1048576) (hu : AsSl w u xs) (hul : xs.length ≤ 1048576) (hi : As.Sh xs) (ht : Sl w t ks) (hkl : ks.length ≤ 1048576) :
    Calls Tryd.prog 39 #[.pointer (some ⟨b, 0, none⟩), u, t] w fun e w' => e = .returned (.int .i64 (Ex.exC r c s zs xs ks)) ∧ Below w.heap.size w w' := by
  have C := Lib.hid (l09Ok_any w b r c s v zs hg hv hl)
  have HG := Lib.hid hg
  have HU := Lib.hid hu
  have HT := Lib.hid ht
  clear hg hv hu ht
  cases hq : Gw.ok r c s zs with
  | false =>
    have HC : Hid (Ex.exC r c s zs xs ks = 1) := Lib.hid (by unfold Ex.exC; rw [Ex.vl_f hq]; rfl)
    rw [HC.out]
    rw [hq] at C
    clear hq HC
    go_enter Tryd.func39, Tryd.ntmps39
    go_wp2_with fail
    refine C.out.mono ?_
    rintro e w1 ⟨rfl, b1⟩
    have B1 := Lib.hid b1
    clear b1
    go_wp2_with fail
    go_ret
    exact ⟨rfl, B1.out⟩
  | true =>
    have G := (Gw.ok_iff _ _ _ _).1 hq
    have CL := Lib.hid (fun W (h : Below w.heap.size w W) => l15List_any W b r c s v zs (HG.out.all h) G u xs (HU.out.below h) hul hi)
    have CK := Lib.hid (fun W (h : Below w.heap.size w W) => l11Cells_any W b r c s v t ks (HG.out.all h) G.r1 G.r2 G.c1 G.c2 (HT.out.below h) hkl)
    rw [← G.n] at CK
    rw [hq] at C
    have HC : Hid (Ex.exC r c s zs xs ks = odC (Ex.okL zs.length xs) true (Rl.ri 0 (zs.length - 1) ks)) := Lib.hid (by unfold Ex.exC; rw [Ex.vl_t hq])
    clear hq G
    cases hL : Ex.okL zs.length xs with
    | false =>
      rw [hL] at CL HC
      have HC : Hid (Ex.exC r c s zs xs ks = 1) := Lib.hid HC.out
      rw [HC.out]
      clear hL HC CK
      go_enter Tryd.func39, Tryd.ntmps39
      go_wp2_with fail
      refine C.out.mono ?_
      rintro e w1 ⟨rfl, b1⟩
      have B1 := Lib.hid b1
      clear b1
      go_wp2_with fail
      refine (CL.out _ B1.out).mono ?_
      rintro e w2 ⟨rfl, b2⟩
      have B2 := Lib.hid (bt B1.out b2)
      clear b2
      go_wp2_with fail
      go_ret
      exact ⟨rfl, B2.out⟩
    | true =>
      rw [hL] at CL HC
      cases hK : Rl.ri 0 (zs.length - 1) ks with
      | false =>
        rw [hK] at CK HC
        have HC : Hid (Ex.exC r c s zs xs ks = 7) := Lib.hid HC.out
        rw [HC.out]
        clear hL HC hK
        go_enter Tryd.func39, Tryd.ntmps39
        go_wp2_with fail
        refine C.out.mono ?_
        rintro e w1 ⟨rfl, b1⟩
        have B1 := Lib.hid b1
        clear b1
        go_wp2_with fail
        refine (CL.out _ B1.out).mono ?_
        rintro e w2 ⟨rfl, b2⟩
        have B2 := Lib.hid (bt B1.out b2)
        clear b2
        go_wp2_with fail
        refine (CK.out _ B2.out).mono ?_
        rintro e w3 ⟨rfl, b3⟩
        have B3 := Lib.hid (bt B2.out b3)
        clear b3
        go_wp2_with fail
        go_ret
        exact ⟨rfl, B3.out⟩
      | true =>
        rw [hK] at CK HC
        have HC : Hid (Ex.exC r c s zs xs ks = 0) := Lib.hid HC.out
        rw [HC.out]
        clear hL HC hK
        go_enter Tryd.func39, Tryd.ntmps39
        go_wp2_with fail
        refine C.out.mono ?_
        rintro e w1 ⟨rfl, b1⟩
        have B1 := Lib.hid b1
        clear b1
        go_wp2_with fail
        refine (CL.out _ B1.out).mono ?_
        rintro e w2 ⟨rfl, b2⟩
        have B2 := Lib.hid (bt B1.out b2)
        clear b2
        go_wp2_with fail
        refine (CK.out _ B2.out).mono ?_
        rintro e w3 ⟨rfl, b3⟩
        have B3 := Lib.hid (bt B2.out b3)
        clear b3
        go_wp2_with fail
        go_ret
        exact ⟨rfl, B3.out⟩
set_option maxHeartbeats 1600000 in
theorem l15Hit_any (w : World) (b o : Nat) (x : Ast) (u t : Value) (ks : List Int) (hc : AsCells w b o x u) (hx : x.ce.length ≤ 1048576) (ht : Sl w t ks) (hkl : ks.length ≤ 1048576) :
    Calls Tryd.prog 71 #[.pointer (some ⟨b, o, none⟩), t] w fun e w' => e = .returned (.bool (Ex.hit ks x)) ∧ Below w.heap.size w w' := by
  obtain ⟨ua, ucap, rfl⟩ := hc.sl.form
  have HC := Lib.hid hc
  have HT := Lib.hid ht
  clear hc ht
  go_enter Tryd.func71, Tryd.ntmps71
  go_wp2
  go_loopw [5] (fun i wr => ∃ k : Nat, k ≤ x.ce.length ∧ i = .int .i64 (k : Int) ∧ Hid (∀ j (hj : j < x.ce.length), j < k → ks.any (fun y => y == x.ce[j]) = false) ∧ Hid (Below w.heap.size w wr)) (fun i _ => x.ce.length - (intOf i).toNat)
  case atStart => exact ⟨0, Nat.zero_le _, rfl, Lib.hid (fun j _ h => absurd h (Nat.not_lt_zero _)), Lib.hid (Below.refl _ _)⟩
  case round =>
    obtain ⟨k, hk, rfl, hp, hb⟩ := hrel
    have c1 := (HC.out.all hb.out).c1
    have clt := (HC.out.all hb.out).lt
    by_cases hlt : k < x.ce.length
    · have hltz : (k : Int) < (x.ce.length : Int) := by omega
      obtain ⟨eb, eo, ec1, hn2, hebl, hec⟩ := (HC.out.all hb.out).sl.atI hlt
      simp only [Value.slice.injEq] at hn2
      obtain ⟨rfl, -, rfl⟩ := hn2
      have e1 := hec k hlt
      have CH := Lib.hid (l00Has_any wr t ks x.ce[k] (HT.out.below hb.out) hkl)
      have HN : Hid (ks.any (fun y => y == x.ce[k]) = false → ∀ j (hj : j < x.ce.length), j < k + 1 → ks.any (fun y => y == x.ce[j]) = false) := Lib.hid (fun h j hj hjk => by
        by_cases e : j = k
        · subst e; exact h
        · exact hp.out j hj (by omega))
      have HY : Hid (ks.any (fun y => y == x.ce[k]) = true → Ex.hit ks x = true) := Lib.hid (Ex.hit_yes hlt)
      clear hec
      generalize hq : ks.any (fun y => y == x.ce[k]) = q at *
      clear hq
      generalize x.ce[k] = y at *
      cases q with
      | true =>
        have HYY := Lib.hid (HY.out rfl)
        clear HY HN
        go_wp2_with fail
        refine CH.out.mono ?_
        rintro e w2 ⟨rfl, b2⟩
        have B2 := Lib.hid (bt hb.out b2)
        clear b2
        go_wp2_with fail
        go_ret
        exact ⟨ret_bool HYY.out.symm, B2.out⟩
      | false =>
        have HNN := Lib.hid (HN.out rfl)
        clear HY HN
        go_wp2_with fail
        refine CH.out.mono ?_
        rintro e w2 ⟨rfl, b2⟩
        have B2 := Lib.hid (bt hb.out b2)
        clear b2
        go_wp2_with fail
        exact ⟨⟨k + 1, by omega, by go_num, HNN, B2⟩, by simp only [intOf]; omega⟩
    · have hltz : ¬ (k : Int) < (x.ce.length : Int) := by omega
      have hn : Hid (Ex.hit ks x = false) := Lib.hid (Ex.hit_no (fun j hj => hp.out j hj (by omega)))
      go_wp2
      go_ret
      exact ⟨ret_bool hn.out.symm, hb.out⟩
set_option maxHeartbeats 3200000 in
theorem l15Exposed_any (w : World) (u : Value) (xs : List Ast) (t : Value) (ks : List Int) (hu : AsSl w u xs) (hul : xs.length ≤ 12) (hi : As.Sh xs) (ht : Sl w t ks) (hkl : ks.length ≤ 1048576) :
    Calls Tryd.prog 40 #[u, t] w (RJp w (Ex.exL xs ks)) := by
  obtain ⟨i0, hi0, hz0, hz1, hz2⟩ := info_parts info_i64
  obtain ⟨ua, ucap, rfl⟩ := hu.form
  have HU := Lib.hid hu
  have HT := Lib.hid ht
  have HI := Lib.hid hi
  have O1 : Hid (Own w.heap.size (w.alloc (.cells #[] 2)) (.slice (some ⟨w.heap.size, 0, none⟩) 0 0) (Gw.stF (Ex.hitAt xs ks) 0)) := Lib.hid (World.ownsRow_lit _ _ _ (Nat.le_refl _) (by decide) (by decide))
  have B1 := Lib.hid ((Below.refl w.heap.size w).alloc (Nat.le_refl _) (.cells #[] 2))
  clear hu ht hi
  go_enter Tryd.func40, Tryd.ntmps40
  go_wp2_with fail
  go_loopw [5, 6] (fun q i wr => ∃ k : Nat, k ≤ xs.length ∧ i = .int .i64 (k : Int) ∧ Hid (Own w.heap.size wr q (Gw.stF (Ex.hitAt xs ks) k)) ∧ Hid (Below w.heap.size w wr)) (fun _ i _ => xs.length - (intOf i).toNat)
  case atStart => exact ⟨0, by omega, rfl, O1, B1⟩
  case round =>
    obtain ⟨k, hk, rfl, hO, hb⟩ := hrel
    clear O1 B1
    have hlm : (Gw.stF (Ex.hitAt xs ks) k).length ≤ 64 := Nat.le_trans (Gw.stF_len _ _) (by omega)
    by_cases hlt : k < xs.length
    · have hltz : (k : Int) < (xs.length : Int) := by omega
      obtain ⟨b', off, cap1, hn, hbl, hc⟩ := (HU.out.below hb.out).known hlt
      simp only [Value.slice.injEq] at hn
      obtain ⟨rfl, -, rfl⟩ := hn
      have C := Lib.hid (l15Hit_any wr b' (off + k * 3) xs[k] _ t ks (hc k hlt) (HI.out _ (List.getElem_mem hlt)).2 (HT.out.below hb.out) hkl)
      have hhit := Ex.hitAt_in (ks := ks) hlt
      clear hc
      cases hq : Ex.hit ks xs[k] with
      | true =>
        have hs := Lib.hid (Gw.stF_yes (p := Ex.hitAt xs ks) (n := k) (hhit.trans hq))
        rw [hq] at C
        clear hq hhit
        generalize Gw.stF (Ex.hitAt xs ks) k = l at *
        go_wp2_with fail
        refine C.out.mono ?_
        rintro e w2 ⟨rfl, b2⟩
        have O2 := Lib.hid (hO.out.belowAll b2)
        have B2 := Lib.hid (bt hb.out b2)
        clear b2 hO hb C
        go_wp2_with (at_builtin; refine wpList_append_own _ rfl _ _ 22 rfl w.heap.size 2 i0 (.int .i64 0) 1 8 Tryd.underlying22 hi0 hz0 hz1 hz2 rfl (by decide) _ _ _ rfl (own_belowAll O2.out ((Below.refl _ _).alloc (Nat.le_refl _) _)) ⟨w2.heap.size, 0, none⟩ 1 1 [.int .i64 (k : Int)] rfl rfl (row_new _ [_] _) (iv_cell [(k : Int)]) ?c3 ?c4 ?c5 ?_)
        case c3 => unfold maxLen; omega
        case c4 => omega
        case c5 => have := B2.out.size; first | omega | (simp; omega)
        intro v' w7 hown' hgrow _
        have O7 : Hid (Own w.heap.size w7 v' (Gw.stF (Ex.hitAt xs ks) (k + 1))) := Lib.hid (by rw [hs.out]; unfold Own; rw [iv_append, List.length_append]; exact hown')
        have B7 : Hid (Below w.heap.size w w7) := Lib.hid ((B2.out.alloc B2.out.size _).grown hgrow (by have := B2.out.size; simp; omega) (fun j hj => (World.ownsRow.lt O2.out j hj).1))
        clear hown' hgrow O2 B2
        go_wp2
        exact ⟨⟨k + 1, by omega, by go_num, O7, B7⟩, by simp only [intOf]; omega⟩
      | false =>
        have hs := Lib.hid (Gw.stF_no (p := Ex.hitAt xs ks) (n := k) (hhit.trans hq))
        rw [hq] at C
        clear hq hhit
        go_wp2_with fail
        refine C.out.mono ?_
        rintro e w2 ⟨rfl, b2⟩
        have O2 : Hid (Own w.heap.size w2 _ (Gw.stF (Ex.hitAt xs ks) (k + 1))) := Lib.hid (by rw [hs.out]; exact hO.out.belowAll b2)
        have B2 := Lib.hid (bt hb.out b2)
        clear b2 hO hb C
        go_wp2_with fail
        exact ⟨⟨k + 1, by omega, by go_num, O2, B2⟩, by simp only [intOf]; omega⟩
    · have hltz : ¬ (k : Int) < (xs.length : Int) := by omega
      have hkn : k = xs.length := by omega
      have O2 : Hid (Own w.heap.size wr _ (Ex.exL xs ks)) := Lib.hid (by unfold Ex.exL; rw [← hkn]; exact hO.out)
      clear hkn hO
      go_wp2
      go_ret
      exact ⟨_, rfl, O2.out, hb.out⟩
set_option maxHeartbeats 3200000 in
theorem specExposedAssets_any (w : World) (r c s : Int) (v : Value) (zs : List Int) (u : Value) (xs : List Ast) (t : Value) (ks : List Int) (hv : Sl w v zs) (hl : zs.length ≤ 1048576) (hu : AsSl w u xs) (hul : xs.length ≤ 1048576) (hi : As.Sh xs) (ht : Sl w t ks) (hkl : ks.length ≤ 1048576) :
    Calls Tryd.prog 10 #[.agg #[.int .i64 r, .int .i64 c, .int .i64 s, v], u, t] w (RIx w (Ex.exA r c s zs xs ks) (Ex.exC r c s zs xs ks)) := by
  have HB := Lib.hid (boxG_below w r c s v 30)
  have C := Lib.hid (l15Ask_any (boxG w r c s v 30) w.heap.size r c s v zs u xs t ks (boxG_cells w r c s v 30) (hv.below HB.out) hl (hu.below HB.out) hul hi (ht.below HB.out) hkl)
  by_cases hz : Ex.exC r c s zs xs ks = 0
  · obtain ⟨-, -, -, OK⟩ := Ex.ex_0 hz
    have CX := Lib.hid (fun W (h : Below w.heap.size w W) => l15Exposed_any W u xs t ks (hu.below h) OK.x12 hi (ht.below h) hkl)
    have E := Lib.hid (Ex.exA_yes hz)
    rw [E.out, hz]
    rw [hz] at C
    clear hz OK hv hu ht
    go_enter Tryd.func10, Tryd.ntmps10
    go_wp2_with fail
    refine C.out.mono ?_
    rintro e w1 ⟨rfl, b1⟩
    have B1 := Lib.hid (bt HB.out b1)
    clear b1
    go_wp2_with fail
    refine (CX.out _ B1.out).mono ?_
    rintro e w2 ⟨q, rfl, o2, b2⟩
    have B2 := Lib.hid (bt B1.out b2)
    have O2 := Lib.hid (Own.le o2 B1.out.size)
    clear b2 o2
    go_wp2_with fail
    go_ret2
    exact RIx.yes rfl rfl O2.out B2.out
  · have hcb : (Ex.exC r c s zs xs ks != 0) = true := bne_iff_ne.2 hz
    have E := Lib.hid (Ex.exA_no hz)
    rw [E.out]
    clear hz hv hu ht
    generalize Ex.exC r c s zs xs ks = code at *
    go_enter Tryd.func10, Tryd.ntmps10
    go_wp2_with fail
    refine C.out.mono ?_
    rintro e w1 ⟨rfl, b1⟩
    have B1 := Lib.hid (bt HB.out b1)
    clear b1
    go_wp2_with fail
    go_ret2
    exact RIx.no B1.out
set_option maxHeartbeats 12800000 in
theorem implExposedAssets_any (w : World) (r c s : Int) (v : Value) (zs : List Int) (u : Value) (xs : List Ast) (t : Value) (ks : List Int) (hv : Sl w v zs) (hl : zs.length ≤ 1048576) (hu : AsSl w u xs) (hul : xs.length ≤ 1048576) (hi : As.Sh xs) (ht : Sl w t ks) (hkl : ks.length ≤ 1048576) (hT : DbAt w) :
    Calls Tryd.prog 14 #[.agg #[.int .i64 r, .int .i64 c, .int .i64 s, v], u, t] w (RIx w (Ex.exA r c s zs xs ks) (Ex.exC r c s zs xs ks)) := by
  obtain ⟨ua, ucap, rfl⟩ := hu.form
  obtain ⟨ta, tcap, rfl⟩ := ht.form
  obtain ⟨va, vcap, rfl⟩ := hv.form
  obtain ⟨W2, hW2⟩ : ∃ W2, boxG w r c s (.slice va zs.length vcap) 30 = W2 := ⟨_, rfl⟩
  have HB : Hid (Below w.heap.size w W2) := Lib.hid (by rw [← hW2]; exact boxG_below ..)
  have K1 : Hid (GC W2 w.heap.size r c s (.slice va zs.length vcap)) := Lib.hid (by rw [← hW2]; exact boxG_cells w r c s _ _)
  have HU := Lib.hid (hu.below HB.out)
  have HT := Lib.hid (ht.below HB.out)
  have HDB := Lib.hid (hT.below HB.out)
  have CV := Lib.hid (fun W (h : Below W2.heap.size W2 W) => implValidAssets_any W r c s (.slice va zs.length vcap) zs (.slice ua xs.length ucap) xs (hv.below (bt HB.out h)) hl (HU.out.below h) hul hi)
  have CM := Lib.hid (fun W (h : Below W2.heap.size W2 W) => areIndices_any W (.slice ta ks.length tcap) ks (zs.length : Int) (by omega) (by omega) (HT.out.below h) hkl)
  have CO := Lib.hid (fun a b o W => orderedCode_any a b o W)
  have KK := Lib.hid (fun W (h : Below W2.heap.size W2 W) => (K1.out.all h).four)
  have BD : Hid (Below W2.heap.size W2 W2.drew) := Lib.hid (below_drewW W2 1)
  obtain ⟨x0, x1, x2, x3⟩ := KK.out W2 (Below.refl _ _)
  have hwl := K1.out.lt
  clear hu ht hv hT
  unfold boxG at hW2
  cases hq : Ex.vl r c s zs xs with
  | false =>
    have HC : Hid (Ex.exC r c s zs xs ks = 1) := Lib.hid (by unfold Ex.exC; rw [hq]; rfl)
    have E := Lib.hid (Ex.exA_no (r := r) (c := c) (s := s) (zs := zs) (xs := xs) (ks := ks) (by rw [HC.out]; decide))
    rw [E.out, HC.out]
    rw [hq] at CV
    clear hq E HC
    generalize Rl.ri 0 ((zs.length : Int) - 1) ks = yb at *
    have CO := Lib.hid (fun W => CO.out false true yb W)
    rw [show odC false true yb = 1 from rfl] at CO
    go_enter Tryd.func14, Tryd.ntmps14
    go_wp2_with fail
    try rw [hW2]
    go_region_held3 (fun w' => w'.cell? ⟨w.heap.size, 0, none⟩ = some (.int .i64 r) ∧ w'.cell? ⟨w.heap.size, 1, none⟩ = some (.int .i64 c) ∧ w'.cell? ⟨w.heap.size, 2, none⟩ = some (.int .i64 s) ∧ w'.cell? ⟨w.heap.size, 3, none⟩ = some (.slice va zs.length vcap)) (go_keep)
      (first
        | (go_at_call 42; with_reducible refine Calls.mono (CV.out wA BA.out) ?_; rintro e wB ⟨rfl, bB⟩; have BB := Lib.hid (bt BA.out bB); clear bB; obtain ⟨y0, y1, y2, y3⟩ := KK.out wB BB.out)
        | (go_at_call 43; with_reducible refine Calls.mono (CM.out wA BA.out) ?_; rintro e wB ⟨rfl, bB⟩; have BB := Lib.hid (bt BA.out bB); clear bB; obtain ⟨y0, y1, y2, y3⟩ := KK.out wB BB.out)
        | (go_at_call 42; with_reducible refine Calls.mono (CV.out W2.drew BD.out) ?_; rintro e wA ⟨rfl, bA⟩; have BA := Lib.hid (bt BD.out bA); clear bA; obtain ⟨y0, y1, y2, y3⟩ := KK.out wA BA.out)
        | (go_at_call 43; with_reducible refine Calls.mono (CM.out W2.drew BD.out) ?_; rintro e wA ⟨rfl, bA⟩; have BA := Lib.hid (bt BD.out bA); clear bA; obtain ⟨y0, y1, y2, y3⟩ := KK.out wA BA.out)
        | (go_at_call 41; refine (CO.out _).mono ?_; rintro e wC ⟨rfl, rfl⟩))
    all_goals (
      have B3 := Lib.hid (bt HB.out BB.out)
      go_wp2_with fail
      go_ret2
      exact RIx.no B3.out)
  | true =>
    rw [hq] at CV
    cases hM : Rl.ri 0 ((zs.length : Int) - 1) ks with
    | false =>
      have HC : Hid (Ex.exC r c s zs xs ks = 7) := Lib.hid (by unfold Ex.exC; rw [hq, hM]; rfl)
      have E := Lib.hid (Ex.exA_no (r := r) (c := c) (s := s) (zs := zs) (xs := xs) (ks := ks) (by rw [HC.out]; decide))
      rw [E.out, HC.out]
      rw [hM] at CM
      clear hq E HC hM
      have CO := Lib.hid (fun W => CO.out true true false W)
      rw [show odC true true false = 7 from rfl] at CO
      go_enter Tryd.func14, Tryd.ntmps14
      go_wp2_with fail
      try rw [hW2]
      go_region_held3 (fun w' => w'.cell? ⟨w.heap.size, 0, none⟩ = some (.int .i64 r) ∧ w'.cell? ⟨w.heap.size, 1, none⟩ = some (.int .i64 c) ∧ w'.cell? ⟨w.heap.size, 2, none⟩ = some (.int .i64 s) ∧ w'.cell? ⟨w.heap.size, 3, none⟩ = some (.slice va zs.length vcap)) (go_keep)
        (first
          | (go_at_call 42; with_reducible refine Calls.mono (CV.out wA BA.out) ?_; rintro e wB ⟨rfl, bB⟩; have BB := Lib.hid (bt BA.out bB); clear bB; obtain ⟨y0, y1, y2, y3⟩ := KK.out wB BB.out)
          | (go_at_call 43; with_reducible refine Calls.mono (CM.out wA BA.out) ?_; rintro e wB ⟨rfl, bB⟩; have BB := Lib.hid (bt BA.out bB); clear bB; obtain ⟨y0, y1, y2, y3⟩ := KK.out wB BB.out)
          | (go_at_call 42; with_reducible refine Calls.mono (CV.out W2.drew BD.out) ?_; rintro e wA ⟨rfl, bA⟩; have BA := Lib.hid (bt BD.out bA); clear bA; obtain ⟨y0, y1, y2, y3⟩ := KK.out wA BA.out)
          | (go_at_call 43; with_reducible refine Calls.mono (CM.out W2.drew BD.out) ?_; rintro e wA ⟨rfl, bA⟩; have BA := Lib.hid (bt BD.out bA); clear bA; obtain ⟨y0, y1, y2, y3⟩ := KK.out wA BA.out)
          | (go_at_call 41; refine (CO.out _).mono ?_; rintro e wC ⟨rfl, rfl⟩))
      all_goals (
        have B3 := Lib.hid (bt HB.out BB.out)
        go_wp2_with fail
        go_ret2
        exact RIx.no B3.out)
    | true =>
      have HC : Hid (Ex.exC r c s zs xs ks = 0) := Lib.hid (by unfold Ex.exC; rw [hq, hM]; rfl)
      have E := Lib.hid (Ex.exA_yes HC.out)
      have OK := Lib.hid (Ex.ex_0 HC.out).2.2.2
      have EW := Lib.hid (Ex.ex_word xs ks (Nat.le_trans OK.out.x12 (by decide)))
      rw [E.out, HC.out]
      rw [hM] at CM
      have hk64 := OK.out.k64
      have hx12 := OK.out.x12
      clear hq E HC hM
      have CO := Lib.hid (fun W => CO.out true true true W)
      rw [show odC true true true = 0 from rfl] at CO
      have CB := Lib.hid (fun W (h : Below W2.heap.size W2 W) => assetsByCell_any W (.slice ua xs.length ucap) xs (HU.out.below h) OK.out.x12 (fun x hx => ⟨(OK.out.ce x hx).1, (OK.out.ce x hx).2.1⟩))
      have PL : Hid (∀ p ∈ Ex.prK xs xs.length, p.1 < 64) := Lib.hid (fun p hp => by have := (Ex.prK_mem.1 hp).1; omega)
      have HFL := Lib.hid (fun y => Ex.fP_lt y PL.out)
      have HNL := Lib.hid (fun l => Ex.exN_lt PL.out l)
      have HNS := Lib.hid (fun k (h : k < ks.length) => Ex.exN_snoc (P := Ex.prK xs xs.length) h)
      generalize Ex.prK xs xs.length = P at *
      go_enter Tryd.func14, Tryd.ntmps14
      go_wp2_with fail
      try rw [hW2]
      go_region_held3 (fun w' => w'.cell? ⟨w.heap.size, 0, none⟩ = some (.int .i64 r) ∧ w'.cell? ⟨w.heap.size, 1, none⟩ = some (.int .i64 c) ∧ w'.cell? ⟨w.heap.size, 2, none⟩ = some (.int .i64 s) ∧ w'.cell? ⟨w.heap.size, 3, none⟩ = some (.slice va zs.length vcap)) (go_keep)
        (first
          | (go_at_call 42; with_reducible refine Calls.mono (CV.out wA BA.out) ?_; rintro e wB ⟨rfl, bB⟩; have BB := Lib.hid (bt BA.out bB); clear bB; obtain ⟨y0, y1, y2, y3⟩ := KK.out wB BB.out)
          | (go_at_call 43; with_reducible refine Calls.mono (CM.out wA BA.out) ?_; rintro e wB ⟨rfl, bB⟩; have BB := Lib.hid (bt BA.out bB); clear bB; obtain ⟨y0, y1, y2, y3⟩ := KK.out wB BB.out)
          | (go_at_call 42; with_reducible refine Calls.mono (CV.out W2.drew BD.out) ?_; rintro e wA ⟨rfl, bA⟩; have BA := Lib.hid (bt BD.out bA); clear bA; obtain ⟨y0, y1, y2, y3⟩ := KK.out wA BA.out)
          | (go_at_call 43; with_reducible refine Calls.mono (CM.out W2.drew BD.out) ?_; rintro e wA ⟨rfl, bA⟩; have BA := Lib.hid (bt BD.out bA); clear bA; obtain ⟨y0, y1, y2, y3⟩ := KK.out wA BA.out)
          | (go_at_call 41; refine (CO.out _).mono ?_; rintro e wC ⟨rfl, rfl⟩))
      all_goals (
        have B3 := Lib.hid (bt HB.out BB.out)
        clear CV CM CO y0 y1 y2 y3
        go_wp2_with fail
        refine (CB.out _ BB.out).mono ?_
        rintro e w4 ⟨rfl, ⟨mn, hm4⟩, b4⟩
        have M4 := Lib.hid hm4
        have N4 := Lib.hid (bt BB.out b4)
        obtain ⟨mb, hmb⟩ : ∃ b, wB.heap.size = b := ⟨_, rfl⟩
        rw [hmb] at M4
        rw [hmb]
        clear hm4 b4 hmb CB
        go_wp2_with fail
        go_loopw [10, 12, 29] (fun ev _ iv wr => ∃ k : Nat, k ≤ ks.length ∧ iv = .int .i64 (k : Int) ∧ ev = .int .u64 (Ex.exN P (ks.take k) : Int) ∧ Hid (Below w4.heap.size w4 wr)) (fun _ _ iv _ => ks.length - (intOf iv).toNat)
        case atStart => exact ⟨0, Nat.zero_le _, rfl, rfl, Lib.hid (Below.refl _ _)⟩
        case round =>
          obtain ⟨k, hk, rfl, rfl, hb⟩ := hrel
          by_cases hlt : k < ks.length
          · have hltz : (k : Int) < (ks.length : Int) := by omega
            obtain ⟨eb, eo, ec1, hn2, hebl, hec⟩ := (HT.out.below (bt N4.out hb.out)).atI hlt
            simp only [Value.slice.injEq] at hn2
            obtain ⟨rfl, -, rfl⟩ := hn2
            have e1 := hec k hlt
            have hyb := OK.out.ks ks[k] (List.getElem_mem hlt)
            have HS := Lib.hid (HNS.out k hlt)
            have HO := Lib.hid (bits_or_u64_nat (Ex.exN P (ks.take k)) (Ex.fP P ks[k]) (HNL.out _) (HFL.out _))
            clear hec
            generalize ks[k] = y at *
            obtain ⟨D, hown, hisM, hat⟩ := M4.out.all hb.out
            have HOWN := Lib.hid hown
            have HAT := Lib.hid hat
            have HKEY := Lib.hid (keyC hyb)
            clear hown hisM hat
            generalize Ex.exN P (ks.take k) = e1v at *
            go_wp2_with (at_lookup; refine wpList_lookup_own_int _ rfl _ _ 70 rfl 2 73 .u64 lawC Tryd.underlying70 Tryd.underlying73 (zeroC _) mb mn D rfl HOWN.out _ (kC y) rfl HKEY.out ?_; intro c' hac hwc; obtain rfl : c' = (Ex.fP P y : Int) := (by have h := HAT.out y; rw [hac] at h; injection h with h; injection h))
            clear hac hwc
            exact ⟨⟨k + 1, by omega, by go_num, by rw [HO.out, HS.out], hb⟩, by simp only [intOf]; omega⟩
          · have hltz : ¬ (k : Int) < (ks.length : Int) := by omega
            have hke : ks.take k = ks := List.take_of_length_le (by omega)
            rw [hke]
            have CI := Lib.hid (indices_any (Ex.exN P ks) (HNL.out ks) wr (HDB.out.below (bt N4.out hb.out)))
            rw [EW.out] at CI
            clear hke
            generalize Ex.exN P ks = ev at *
            go_wp2_with fail
            refine CI.out.mono ?_
            rintro e w5 ⟨q, rfl, o5, b5⟩
            have B5 := Lib.hid (bt (bt HB.out (bt N4.out hb.out)) b5)
            have O5 := Lib.hid (Own.le o5 (bt HB.out (bt N4.out hb.out)).size)
            clear b5 o5
            go_wp2_with fail
            go_ret2
            exact RIx.yes rfl rfl O5.out B5.out)
end Go.Proofs.YtaldmdammipfjaaDoor

/-
  The border of cells, by the program (chapter 11). The conditions: the table of ways as it is laid.
-/
import Derived.Test.YthcmpalbhaefbaaDoorRlL
import Derived.Test.YthcmpalbhaefbaaDoorBoM
import Derived.Test.YthcmpalbhaefbaaDoorRlF
namespace Go.Proofs.YthcmpalbhaefbaaDoor
open Go.RowKit Go.Shelf Go.Deep
set_option linter.unusedVariables false
set_option maxRecDepth 100000
namespace Gw
/-- is a cell one of some, and not all around it are? -/
def brB (r c : Int) (ks : List Int) (k : Nat) : Bool := (ks.any fun y => y == (k : Int)) && !innB r c ks k
def brL (r c s : Int) (zs ks : List Int) : List Int := if rqC r c s zs ks = 0 then stF (brB r c ks) zs.length else []
theorem brL_len {r c s : Int} {zs : List Int} (ks : List Int) (h : zs.length ≤ 1048576) : (brL r c s zs ks).length ≤ 1048576 := by
  unfold brL; split
  · exact Nat.le_trans (stF_len _ _) h
  · simp
theorem br_no {r c s : Int} {zs ks : List Int} (h : rqC r c s zs ks ≠ 0) : brL r c s zs ks = [] := by unfold brL; rw [if_neg h]
theorem br_yes {r c s : Int} {zs ks : List Int} (h : rqC r c s zs ks = 0) : brL r c s zs ks = stF (brB r c ks) zs.length := by unfold brL; rw [if_pos h]
theorem arL_all (r c k : Int) (l : List Nat) : arL r c k (fun _ => true) l = l.map (goC r c k) := by unfold arL; rw [List.filter_eq_self.2 (fun _ _ => rfl)]
end Gw
set_option maxHeartbeats 3200000 in
theorem cellsWhereV_any (h : Nat) (y : Value) (p : Nat → Bool) (w : World) (r c s : Int) (a : Option Addr) (n cap : Nat) (u : Value) (eg : ∀ args w, (callFunc h args).run Tryd.prog w = .ok (.enter h args) w) (hl : n ≤ 64)
    (hc : ∀ k : Nat, k < n → ∀ W, Below w.heap.size w W → Calls Tryd.prog h #[y, .int .i64 (k : Int)] W fun e w' => e = .returned (.bool (p k)) ∧ Below W.heap.size W w') :
    Calls Tryd.prog 63 #[.agg #[.int .i64 r, .int .i64 c, .int .i64 s, .slice a n cap, u], .func (.func h) #[y] #[]] w (RJp w (Gw.stF p n)) := by
  obtain ⟨i0, hi, hz0, hz1, hz2⟩ := info_parts info_i64
  have HC := Lib.hid hc
  have T0 := Lib.hid (Whole.new w 52 #[.int .i64 r, .int .i64 c, .int .i64 s, .slice a n cap, u])
  have B0 := Lib.hid ((Below.refl w.heap.size w).alloc (Nat.le_refl _) (.cells #[.int .i64 r, .int .i64 c, .int .i64 s, .slice a n cap, u] 52))
  clear hc
  go_enter Tryd.func63, Tryd.ntmps63
  go_wp2_with (at_make; refine wpList_make_own _ rfl _ _ 22 rfl w.heap.size 2 i0 (.int .i64 0) 1 Tryd.underlying22 hi hz0 hz1 .i64 .i64 _ n rfl rfl rfl ?c1 ?c2 ?c3 ?_)
  case c1 => rw [hz2]; omega
  case c2 => unfold maxLen; omega
  case c3 => first | exact B0.out.size | (have := B0.out.size; simpa using this)
  intro w1 hown hg
  have O1 : Hid (Own w.heap.size w1 _ (Gw.stF p 0)) := Lib.hid hown
  have N1 : Hid (Below (w.alloc (.cells #[.int .i64 r, .int .i64 c, .int .i64 s, .slice a n cap, u] 52)).heap.size (w.alloc (.cells #[.int .i64 r, .int .i64 c, .int .i64 s, .slice a n cap, u] 52)) w1) := Lib.hid ((Below.refl _ _).grown hg (Nat.le_refl _) (fun k hk => by cases hk))
  have x3 := (T0.out.all N1.out).at_ 3
  have B1 := Lib.hid (bt B0.out N1.out)
  clear hown hg
  go_wp2_with fail
  go_loopw [5, 6, 16] (fun q _ i wr => ∃ (k : Nat), k ≤ n ∧ i = .int .i64 (k : Int) ∧ Hid (Own w.heap.size wr q (Gw.stF p k)) ∧ Hid (Below w.heap.size w wr)) (fun _ _ i _ => n - (intOf i).toNat)
  case atStart => exact ⟨0, Nat.zero_le _, rfl, O1, B1⟩
  case round =>
    obtain ⟨k, hk, rfl, ho, hbw⟩ := hrel
    clear O1 B1 x3
    have hlm : (Gw.stF p k).length ≤ 64 := Nat.le_trans (Gw.stF_len _ _) (by omega)
    by_cases hlt : k < n
    · have hltz : (k : Int) < (n : Int) := by omega
      have C := Lib.hid (fun W hW => HC.out k hlt W hW)
      cases hq : p k with
      | true =>
        have hw : Hid (Gw.stF p (k + 1) = Gw.stF p k ++ [(k : Int)]) := Lib.hid (Gw.stF_yes hq)
        rw [hq] at C
        clear hq
        generalize Gw.stF p k = l at *
        go_wp2_with fail
        go_at_fn h
        refine (C.out _ hbw.out).mono ?_
        rintro e w2 ⟨rfl, b2⟩
        have O2 := Lib.hid (own_belowAll ho.out b2)
        have B2 := Lib.hid (bt hbw.out b2)
        clear b2 ho hbw
        go_wp2_with (at_builtin; refine wpList_append_own _ rfl _ _ 22 rfl w.heap.size 2 i0 (.int .i64 0) 1 8 Tryd.underlying22 hi hz0 hz1 hz2 rfl (by decide) _ _ _ rfl (own_belowAll O2.out ((Below.refl _ _).alloc (Nat.le_refl _) _)) ⟨w2.heap.size, 0, none⟩ 1 1 [.int .i64 (k : Int)] rfl rfl (row_new _ [_] _) (iv_cell [(k : Int)]) ?c3 ?c4 ?c5 ?_)
        case c3 => unfold maxLen; omega
        case c4 => omega
        case c5 => have := B2.out.size; first | omega | (simp; omega)
        intro v' w3 hown' hgrow _
        have hnx : Hid (Own w.heap.size w3 v' (Gw.stF p (k + 1))) := Lib.hid (by rw [hw.out]; unfold Own; rw [iv_append, List.length_append]; exact hown')
        have hnb : Hid (Below w.heap.size w w3) := Lib.hid ((B2.out.alloc B2.out.size _).grown hgrow (by have := B2.out.size; simp; omega) (fun j hj => (O2.out.lt j hj).1))
        clear hown' hgrow O2 B2
        go_wp2
        exact ⟨⟨k + 1, by omega, by go_num, hnx, hnb⟩, by simp only [intOf]; omega⟩
      | false =>
        have hw : Hid (Gw.stF p (k + 1) = Gw.stF p k) := Lib.hid (Gw.stF_no hq)
        rw [hq] at C
        clear hq
        go_wp2_with fail
        go_at_fn h
        refine (C.out _ hbw.out).mono ?_
        rintro e w2 ⟨rfl, b2⟩
        have O2 := Lib.hid (own_belowAll ho.out b2)
        have B2 := Lib.hid (bt hbw.out b2)
        clear b2 ho hbw
        go_wp2_with fail
        exact ⟨⟨k + 1, by omega, by go_num, Lib.hid (by rw [hw.out]; exact O2.out), B2⟩, by simp only [intOf]; omega⟩
    · have hltz : ¬ (k : Int) < (n : Int) := by omega
      have hw : Hid (Gw.stF p n = Gw.stF p k) := Lib.hid (by rw [show k = n by omega])
      go_wp2
      go_ret
      exact ⟨_, rfl, by rw [hw.out]; exact ho.out, hbw.out⟩
set_option maxHeartbeats 6400000 in
theorem isBorder_any (w : World) (R C k g0 cap g cap' Bo : Nat) (s : Int) (zs ks : List Int) (G : Gw.Good R C s zs) (hk : k < zs.length) (hr : RowsAt w g g0 0 C R) (ho : Own Bo w (.slice (some ⟨g0, 0, none⟩) zs.length cap) zs) (hA : AspAt w) (hx : ∀ x ∈ ks, 0 ≤ x ∧ x < 64) :
    Calls Tryd.prog 64 #[.agg #[.int .i64 R, .int .i64 C, .int .i64 s, .slice (some ⟨g0, 0, none⟩) zs.length cap, .slice (some ⟨g, 0, none⟩) R cap', .int .u64 (Rl.sN ks : Int)], .int .i64 (k : Int)] w fun e w' => e = .returned (.bool (Gw.brB R C ks k)) ∧ Below w.heap.size w w' := by
  have hlen := G.len
  have B1 := Lib.hid ((Below.refl w.heap.size w).alloc (Nat.le_refl _) (.cells #[.int .i64 R, .int .i64 C, .int .i64 s, .slice (some ⟨g0, 0, none⟩) zs.length cap, .slice (some ⟨g, 0, none⟩) R cap', .int .u64 (Rl.sN ks : Int)] 90))
  have T1 := Lib.hid (Whole.new w 90 #[.int .i64 R, .int .i64 C, .int .i64 s, .slice (some ⟨g0, 0, none⟩) zs.length cap, .slice (some ⟨g, 0, none⟩) R cap', .int .u64 (Rl.sN ks : Int)])
  have CA := Lib.hid (callsIn_wide.1 (around_in 8 (Nat.le_refl _) (w.alloc (.cells #[.int .i64 R, .int .i64 C, .int .i64 s, .slice (some ⟨g0, 0, none⟩) zs.length cap, .slice (some ⟨g, 0, none⟩) R cap', .int .u64 (Rl.sN ks : Int)] 90)) R C k g0 zs.length cap g cap' (Rl.sN ks) s zs G hk (hr.all B1.out) (own_cells (ho.belowAll B1.out)) (own_lt (ho.belowAll B1.out)) (hA.below B1.out) 110 #[] (fun _ => true) (enters_of Tryd.func110 (by kernel_rfl) rfl)
    (fun a _ _ W _ => by
      have := always_any W #[.int .i64 (a : Int), .int .i64 (Gw.rwA C k a), .int .i64 (Gw.clA C k a), .int .i64 (Gw.drp zs k (Gw.goC R C k a).toNat), .int .i64 (Gw.fall s zs k (Gw.goC R C k a).toNat a)] ⟨_, _, _, _, _, rfl⟩
      simpa [stepV] using this)))
  rw [Gw.arL_all, Gw.near_word] at CA
  have hnb : ∀ x ∈ Gw.near R C k 8, 0 ≤ x ∧ x < 64 := fun x h => by have := Gw.near_bd G.c1 G.n h; omega
  have hs1 : Rl.sN ks < 18446744073709551616 := by simpa using Rl.sN_lt (fun x h => by have := hx x h; omega)
  have hs2 : Rl.sN (Gw.near R C k 8) < 18446744073709551616 := by simpa using Rl.sN_lt (xs := Gw.near R C k 8) (fun x h => by have := hnb x h; omega)
  have hand := Rl.sN_and (xs := Gw.near R C k 8) (ys := ks) (fun x h => (hnb x h).1) (fun x h => (hx x h).1)
  have hcnt := Rl.count_sN ((Gw.near R C k 8).filter (fun x => ks.any (fun y => y == x))) (Rl.up_of none _ (fun _ _ => rfl) ((Gw.near_up R C k 8).filter _)) (fun x h => hnb x (List.mem_filter.1 h).1)
  rw [← hand] at hcnt
  have HB := Lib.hid (bits_and_u64_nat (Rl.sN (Gw.near R C k 8)) (Rl.sN ks) hs2 hs1)
  have CS := Lib.hid (fun W => size_any (Rl.sN (Gw.near R C k 8) &&& Rl.sN ks) W (Nat.lt_of_le_of_lt (Nat.and_le_left) hs2))
  rw [hcnt, ← HB.out] at CS
  have hin := Lib.hid (Gw.near_inner R C k ks)
  have CH := Lib.hid (fun W => has_any (Rl.sN ks) k W (by simpa using hs1) (by omega))
  rw [has_eq hx] at CH
  have HE : Hid (Gw.brB R C ks k = ((ks.any fun y => y == (k : Int)) && !Gw.innB R C ks k)) := Lib.hid rfl
  clear hnb hand hcnt hs1 hs2 hr ho hA G hx HB
  generalize ((Gw.near R C k 8).filter (fun x => ks.any (fun y => y == x))).length = m at *
  generalize Rl.sN (Gw.near R C k 8) = nw at *
  cases hb : ks.any fun y => y == (k : Int) with
  | true =>
    rw [hb, Bool.true_and, ← hin.out] at HE
    rw [hb] at CH
    clear hb hin
    go_enter Tryd.func64, Tryd.ntmps64
    go_wp2_with fail
    refine CA.out.mono ?_
    rintro e w1 ⟨rfl, b1⟩
    have N1 := Lib.hid (bt B1.out b1)
    have x5 := (T1.out.all b1).at_ 5
    clear b1 CA
    go_wp2_with fail
    refine (CH.out _).mono ?_
    rintro e w2 ⟨rfl, rfl⟩
    go_wp2_with fail
    refine (CS.out _).mono ?_
    rintro e w2 ⟨rfl, rfl⟩
    go_wp2_with fail
    go_ret
    exact ⟨ret_bool HE.out.symm, N1.out⟩
  | false =>
    rw [hb, Bool.false_and] at HE
    rw [hb] at CH
    clear hb hin CS
    go_enter Tryd.func64, Tryd.ntmps64
    go_wp2_with fail
    refine CA.out.mono ?_
    rintro e w1 ⟨rfl, b1⟩
    have N1 := Lib.hid (bt B1.out b1)
    have x5 := (T1.out.all b1).at_ 5
    clear b1 CA
    go_wp2_with fail
    refine (CH.out _).mono ?_
    rintro e w2 ⟨rfl, rfl⟩
    go_wp2_with fail
    go_ret
    exact ⟨ret_bool HE.out.symm, N1.out⟩
set_option maxHeartbeats 6400000 in
theorem implBorderOf_any (w : World) (r c s : Int) (v : Value) (zs : List Int) (u : Value) (ks : List Int) (ho : IAt w v zs) (hl : zs.length ≤ 1048576) (hu : Sl w u ks) (hkl : ks.length ≤ 1048576) (hA : AspAt w) :
    Calls Tryd.prog 33 #[.agg #[.int .i64 r, .int .i64 c, .int .i64 s, v], u] w (RIp w (Gw.brL r c s zs ks) (Gw.rqC r c s zs ks)) := by
  obtain ⟨Bo, g0, cap, rfl, hown⟩ := ho
  have HB := Lib.hid (boxG_below w r c s (.slice (some ⟨g0, 0, none⟩) zs.length cap) 28)
  have HK := Lib.hid (fun W (h : Below (boxG w r c s (.slice (some ⟨g0, 0, none⟩) zs.length cap) 28).heap.size (boxG w r c s (.slice (some ⟨g0, 0, none⟩) zs.length cap) 28) W) => (boxG_kept h : GC W w.heap.size r c s (.slice (some ⟨g0, 0, none⟩) zs.length cap)))
  have HO := Lib.hid (hown.belowAll HB.out)
  have HA := Lib.hid (hA.below HB.out)
  have C := Lib.hid (releaseOf_any (boxG w r c s (.slice (some ⟨g0, 0, none⟩) zs.length cap) 28) r c s g0 cap Bo zs u ks true HO.out hl (hu.below HB.out) hkl)
  rw [show odC (Gw.ok r c s zs) true (Rl.ri 0 (zs.length - 1) ks) = Gw.rqC r c s zs ks from rfl] at C
  obtain ⟨ua, ucap, rfl⟩ := hu.form
  unfold boxG at C HB HK HO HA
  clear hown hu hA
  obtain ⟨W2, hW2⟩ : ∃ u, w.alloc (.cells #[.int .i64 r, .int .i64 c, .int .i64 s, .slice (some ⟨g0, 0, none⟩) zs.length cap] 28) = u := ⟨_, rfl⟩
  rw [hW2] at C HB HK HO HA
  obtain ⟨k0, k1, k2, k3⟩ := (HK.out W2 (Below.refl _ _)).four
  have hkl0 := (HK.out W2 (Below.refl _ _)).lt
  by_cases hz : Gw.rqC r c s zs ks = 0
  · obtain ⟨G, hup, hx, hk64⟩ := Gw.rq_0 hz
    have E := Lib.hid (Gw.br_yes hz)
    have HZ := Lib.hid hz
    have hlen := G.len
    have HX : Hid (∀ x ∈ ks, 0 ≤ x ∧ x < 64) := Lib.hid (fun x h => by have := hx x h; omega)
    have GG := Lib.hid G
    clear hup hx G hk64
    go_enter Tryd.func33, Tryd.ntmps33
    go_wp2_with fail
    refine C.out.mono ?_
    rintro e w1 ⟨⟨h, -⟩ | ⟨-, R, C', g, cap', rfl, rfl, rfl, hr⟩, b1⟩
    · exact absurd HZ.out h
    · have N1 := Lib.hid b1
      have L5 := Lib.hid ((Below.refl w1.heap.size w1).alloc (Nat.le_refl _) (.cells #[.int .i64 R, .int .i64 C', .int .i64 s, .slice (some ⟨g0, 0, none⟩) zs.length cap, .slice (some ⟨g, 0, none⟩) R cap', .int .u64 (Rl.sN ks : Int)] 90))
      have N5 := Lib.hid (bt b1 L5.out)
      have T5 := Lib.hid (Whole.new w1 90 #[.int .i64 R, .int .i64 C', .int .i64 s, .slice (some ⟨g0, 0, none⟩) zs.length cap, .slice (some ⟨g, 0, none⟩) R cap', .int .u64 (Rl.sN ks : Int)])
      have x0 := T5.out.at_ 0; have x1 := T5.out.at_ 1; have x2 := T5.out.at_ 2; have x3 := T5.out.at_ 3; have x4 := T5.out.at_ 4; have x5 := T5.out.at_ 5
      have HR5 := Lib.hid (hr.all L5.out)
      clear b1 hr C hz k0 k1 k2 k3 hkl0
      go_wp2_with fail
      generalize w1.alloc (.cells #[.int .i64 R, .int .i64 C', .int .i64 s, .slice (some ⟨g0, 0, none⟩) zs.length cap, .slice (some ⟨g, 0, none⟩) R cap', .int .u64 (Rl.sN ks : Int)] 90) = W5 at *
      have CW := Lib.hid (cellsWhereV_any 64 (.agg #[.int .i64 R, .int .i64 C', .int .i64 s, .slice (some ⟨g0, 0, none⟩) zs.length cap, .slice (some ⟨g, 0, none⟩) R cap', .int .u64 (Rl.sN ks : Int)]) (Gw.brB R C' ks) W5 R C' s (some ⟨g0, 0, none⟩) zs.length cap (.slice (some ⟨g, 0, none⟩) R cap') (enters_of Tryd.func64 (by kernel_rfl) rfl) hlen
        (fun k hk W hW => isBorder_any W R C' k g0 cap g cap' Bo s zs ks GG.out hk (HR5.out.all hW) (HO.out.belowAll (bt N5.out hW)) (HA.out.below (bt N5.out hW)) HX.out))
      clear x0 x1 x2 x3 x4 x5
      refine CW.out.mono ?_
      rintro e w6 ⟨q, rfl, o6, b6⟩
      have B6 := Lib.hid (bt (bt HB.out N5.out) b6)
      have O6 := Lib.hid (Own.le o6 (bt HB.out N5.out).size)
      clear b6 o6 CW
      go_wp2_with fail
      exact bodyPost_ret (v := .tuple #[q, .int .i64 0]) (by simp [results, Tryd.results33, go_sem]) rfl (by rw [E.out, HZ.out]; exact RIp.yes rfl rfl O6.out B6.out)
  · have hcb : (Gw.rqC r c s zs ks != 0) = true := bne_iff_ne.2 hz
    have E := Lib.hid (Gw.br_no hz)
    have HZ := Lib.hid hz
    clear hz
    go_enter Tryd.func33, Tryd.ntmps33
    go_wp2_with fail
    refine C.out.mono ?_
    rintro e w1 ⟨⟨h, rfl⟩ | ⟨h, -⟩, b1⟩
    · have BA := Lib.hid (Below.alloc (bt HB.out b1) (bt HB.out b1).size (.cells #[.int .i64 0, .int .i64 0, .int .i64 0, .slice none 0 0, .slice none 0 0, .int .u64 0] 90))
      clear b1 h C k0 k1 k2 k3 hkl0
      generalize Gw.rqC r c s zs ks = code at *
      go_wp2_with fail
      exact bodyPost_ret (v := .tuple #[.slice none 0 0, .int .i64 code]) (by simp [results, Tryd.results33, go_sem]) rfl (by rw [E.out]; exact RIp.no BA.out)
    · exact absurd h HZ.out
end Go.Proofs.YthcmpalbhaefbaaDoor

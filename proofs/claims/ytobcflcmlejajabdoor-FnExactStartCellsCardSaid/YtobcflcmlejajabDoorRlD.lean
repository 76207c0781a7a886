/-
  The cells of a slope and a direction as asked, by the model. No condition of its own.
-/
import Derived.Test.YtobcflcmlejajabDoorRlC
import Derived.Test.YtobcflcmlejajabDoorTrN
namespace Go.Proofs.YtobcflcmlejajabDoor
open Go.RowKit Go.Shelf Go.Deep
set_option linter.unusedVariables false
set_option maxRecDepth 100000
namespace Gw
/-- is a cell's steepest slope as asked? -/
def stB (r c s : Int) (zs : List Int) (lo hi : Int) (ks : List Int) (k : Nat) : Bool := !decide ((stp r c s zs k 8).1 < 0) && (Ar.inB lo (stp r c s zs k 8).2 hi && ks.any (fun x => x == (stp r c s zs k 8).1))
/-- the cells among the first n that are -/
def stF (p : Nat → Bool) (n : Nat) : List Int := ((List.range n).filter p).map (fun (k : Nat) => (k : Int))
theorem stF_yes {p : Nat → Bool} {n : Nat} (h : p n = true) : stF p (n + 1) = stF p n ++ [(n : Int)] := by unfold stF; rw [List.range_succ, List.filter_append, List.map_append]; simp [h]
theorem stF_no {p : Nat → Bool} {n : Nat} (h : p n = false) : stF p (n + 1) = stF p n := by unfold stF; rw [List.range_succ, List.filter_append, List.map_append]; simp [h]
theorem stF_len (p : Nat → Bool) (n : Nat) : (stF p n).length ≤ n := by
  unfold stF
  rw [List.length_map]
  have := List.length_filter_le p (List.range n)
  rwa [List.length_range] at this
theorem stF_congr {p q : Nat → Bool} {n : Nat} (h : ∀ k, k < n → p k = q k) : stF p n = stF q n := by
  unfold stF
  congr 1
  exact List.filter_congr (fun k hk => h k (List.mem_range.1 hk))
def bdB (lo hi : Int) : Bool := Ar.inB 0 lo 10000 && Ar.inB lo hi 10000
def scL (r c s : Int) (zs : List Int) (lo hi : Int) (ks : List Int) : List Int := if (ok r c s zs && (bdB lo hi && Rl.ri 0 7 ks)) = true then stF (stB r c s zs lo hi ks) zs.length else []
def scC (r c s : Int) (zs : List Int) (lo hi : Int) (ks : List Int) : Int := odC (ok r c s zs) (bdB lo hi) (Rl.ri 0 7 ks)
theorem scL_len {r c s : Int} {zs : List Int} (lo hi : Int) (ks : List Int) (h : zs.length ≤ 1048576) : (scL r c s zs lo hi ks).length ≤ 1048576 := by
  unfold scL; split
  · exact Nat.le_trans (stF_len _ _) h
  · simp
end Gw
set_option maxHeartbeats 1600000 in
theorem l00Has_any (w : World) (v : Value) (xs : List Int) (n : Int) (hv : Sl w v xs) (hl : xs.length ≤ 1048576) :
    Calls Tryd.prog 50 #[v, .int .i64 n] w fun e w' => e = .returned (.bool (xs.any (fun x => x == n))) ∧ Below w.heap.size w w' := by
  obtain ⟨a, cap, rfl⟩ := hv.form
  have HV := Lib.hid hv
  clear hv
  go_enter Tryd.func50, Tryd.ntmps50
  go_wp2
  go_loopw [5] (fun i wr => ∃ k : Nat, k ≤ xs.length ∧ i = .int .i64 (k : Int) ∧ Hid ((xs.take k).any (fun x => x == n) = false) ∧ Hid (Below w.heap.size w wr)) (fun i _ => xs.length - (intOf i).toNat)
  case atStart => exact ⟨0, Nat.zero_le _, rfl, Lib.hid rfl, Lib.hid (Below.refl _ _)⟩
  case round =>
    obtain ⟨k, hk, rfl, hr, hb⟩ := hrel
    by_cases hlt : k < xs.length
    · have hltz : (k : Int) < (xs.length : Int) := by omega
      obtain ⟨b, off, cap1, hn, hbl, hcc⟩ := (HV.out.below hb.out).atI hlt
      simp only [Value.slice.injEq] at hn
      obtain ⟨rfl, -, rfl⟩ := hn
      have c0 := hcc k hlt
      clear hcc
      by_cases he : xs[k] = n
      · have hy : Hid (xs.any (fun x => x == n) = true) := Lib.hid (List.any_eq_true.2 ⟨_, List.getElem_mem hlt, by rw [he]; exact beq_self_eq_true _⟩)
        have heb : (xs[k] == n) = true := beq_iff_eq.2 he
        clear he
        generalize xs[k] = x at *
        go_wp2_with fail
        go_ret
        exact ⟨ret_bool hy.out.symm, hb.out⟩
      · have heb : (xs[k] == n) = false := beq_eq_false_iff_ne.2 he
        have hy : Hid ((xs.take (k + 1)).any (fun x => x == n) = false) := Lib.hid (by rw [List.take_succ_eq_append_getElem hlt, List.any_append, hr.out]; simp [he])
        clear he
        generalize xs[k] = x at *
        go_wp2_with fail
        exact ⟨⟨k + 1, by omega, by go_num, hy, hb⟩, by simp only [intOf]; omega⟩
    · have hltz : ¬ (k : Int) < (xs.length : Int) := by omega
      have hn : Hid (xs.any (fun x => x == n) = false) := Lib.hid (by have := hr.out; rwa [List.take_of_length_le (by omega)] at this)
      go_wp2
      go_ret
      exact ⟨ret_bool hn.out.symm, hb.out⟩
set_option maxHeartbeats 12800000 in
theorem l11Start_any (w : World) (b : Nat) (r c s : Int) (v : Value) (zs : List Int) (lo hi : Int) (u : Value) (ks : List Int) (hc : GC w b r c s v) (hv : Sl w v zs) (G : Gw.Good r c s zs) (hu : Sl w u ks) (hkl : ks.length ≤ 1048576) :
    Calls Tryd.prog 40 #[.pointer (some ⟨b, 0, none⟩), .int .i64 lo, .int .i64 hi, u] w (RJp w (Gw.stF (Gw.stB r c s zs lo hi ks) zs.length)) := by
  obtain ⟨i0, hi0, hz0, hz1, hz2⟩ := info_parts info_i64
  have hlen := G.len
  have hrc : wrap64 (r * c) = (zs.length : Int) := by rw [← G.n]; exact IntWalk.wrap64_in _ ⟨by omega, by omega⟩
  have HC := Lib.hid hc
  have CS := Lib.hid (fun (k : Nat) (hk : k < zs.length) W (h : Below w.heap.size w W) => l09Steepest_any W b r c s v zs k (hc.all h) (hv.below h) G hk)
  have CI := Lib.hid (fun (x : Int) W => l00In_any x lo hi W)
  have CH := Lib.hid (fun (x : Int) W (h : Below w.heap.size w W) => l00Has_any W u ks x (hu.below h) hkl)
  obtain ⟨ua, ucap, rfl⟩ := hu.form
  have O1 : Hid (Own w.heap.size (w.alloc (.cells #[] 2)) (.slice (some ⟨w.heap.size, 0, none⟩) 0 0) (Gw.stF (Gw.stB r c s zs lo hi ks) 0)) := Lib.hid (World.ownsRow_lit _ _ _ (Nat.le_refl _) (by decide) (by decide))
  have B1 := Lib.hid ((Below.refl w.heap.size w).alloc (Nat.le_refl _) (.cells #[] 2))
  clear hc hv G hu
  go_enter Tryd.func40, Tryd.ntmps40
  go_wp2_with fail
  go_loopw [9, 10, 11, 12] (fun q i _ _ wr => ∃ k : Nat, k ≤ zs.length ∧ i = .int .i64 (k : Int) ∧ Hid (Own w.heap.size wr q (Gw.stF (Gw.stB r c s zs lo hi ks) k)) ∧ Hid (Below w.heap.size w wr)) (fun _ i _ _ _ => zs.length - (intOf i).toNat)
  case atStart => exact ⟨0, by omega, rfl, O1, B1⟩
  case round =>
    obtain ⟨k, hk, rfl, hO, hb⟩ := hrel
    clear O1 B1
    have hlm : (Gw.stF (Gw.stB r c s zs lo hi ks) k).length ≤ 64 := Nat.le_trans (Gw.stF_len _ _) (by omega)
    obtain ⟨x0, x1, x2, x3⟩ := (HC.out.all hb.out).four
    have hbl0 := (HC.out.all hb.out).lt
    by_cases hlt : k < zs.length
    · have hltz : (k : Int) < (zs.length : Int) := by omega
      have C := Lib.hid (fun W h => CS.out k hlt W h)
      have hYY := Lib.hid (fun h => Gw.stF_yes (p := Gw.stB r c s zs lo hi ks) (n := k) h)
      have hNN := Lib.hid (fun h => Gw.stF_no (p := Gw.stB r c s zs lo hi ks) (n := k) h)
      have hsb : Gw.stB r c s zs lo hi ks k = (!decide ((Gw.stp r c s zs k 8).1 < 0) && (Ar.inB lo (Gw.stp r c s zs k 8).2 hi && ks.any (fun x => x == (Gw.stp r c s zs k 8).1))) := rfl
      generalize Gw.stF (Gw.stB r c s zs lo hi ks) k = l at *
      generalize Gw.stp r c s zs k 8 = p at *
      generalize hsp : Gw.stB r c s zs lo hi ks k = sb at *
      clear hsp
      by_cases h1 : p.1 < 0
      · have hge : decide (0 ≤ p.1) = false := decide_eq_false (by omega)
        have hno : sb = false := by rw [hsb, decide_eq_true h1]; rfl
        have HN := Lib.hid (hNN.out hno)
        clear hsb hno h1 hYY hNN
        go_wp2_with fail
        go_quiet (fail)
        have BQ := Lib.hid (bt hb.out (below_drewW wr nq))
        have OQ := Lib.hid (own_belowAll hO.out (below_drewW wr nq))
        clear hb hO
        go_wp2_with fail
        refine (C.out _ BQ.out).mono ?_
        rintro e w3 ⟨rfl, b3⟩
        have B3 := Lib.hid (bt BQ.out b3)
        have O3 := Lib.hid (own_belowAll OQ.out b3)
        clear b3 BQ OQ C
        go_wp2_with fail
        exact ⟨⟨k + 1, by omega, by go_num, Lib.hid (by rw [HN.out]; exact O3.out), B3⟩, by simp only [intOf]; omega⟩
      · have hge : decide (0 ≤ p.1) = true := decide_eq_true (by omega)
        rw [decide_eq_false h1, Bool.not_false, Bool.true_and] at hsb
        have CI2 := Lib.hid (fun W => CI.out p.2 W)
        have CH2 := Lib.hid (fun W h => CH.out p.1 W h)
        clear h1
        cases hin : Ar.inB lo p.2 hi with
        | false =>
          rw [hin, Bool.false_and] at hsb
          rw [hin] at CI2
          have HN := Lib.hid (hNN.out hsb)
          clear hsb hin hYY hNN
          go_wp2_with fail
          go_quiet (fail)
          have BQ := Lib.hid (bt hb.out (below_drewW wr nq))
          have OQ := Lib.hid (own_belowAll hO.out (below_drewW wr nq))
          clear hb hO
          go_wp2_with fail
          refine (C.out _ BQ.out).mono ?_
          rintro e w3 ⟨rfl, b3⟩
          have B3 := Lib.hid (bt BQ.out b3)
          have O3 := Lib.hid (own_belowAll OQ.out b3)
          clear b3 BQ OQ C
          go_wp2_with fail
          refine (CI2.out _).mono ?_
          rintro e w4 ⟨rfl, rfl⟩
          go_wp2_with fail
          exact ⟨⟨k + 1, by omega, by go_num, Lib.hid (by rw [HN.out]; exact O3.out), B3⟩, by simp only [intOf]; omega⟩
        | true =>
          rw [hin, Bool.true_and] at hsb
          rw [hin] at CI2
          clear hin
          cases ha : ks.any (fun x => x == p.1) with
          | false =>
            rw [ha] at hsb CH2
            have HN := Lib.hid (hNN.out hsb)
            clear hsb ha hYY hNN
            go_wp2_with fail
            go_quiet (fail)
            have BQ := Lib.hid (bt hb.out (below_drewW wr nq))
            have OQ := Lib.hid (own_belowAll hO.out (below_drewW wr nq))
            clear hb hO
            go_wp2_with fail
            refine (C.out _ BQ.out).mono ?_
            rintro e w3 ⟨rfl, b3⟩
            have B3 := Lib.hid (bt BQ.out b3)
            have O3 := Lib.hid (own_belowAll OQ.out b3)
            clear b3 BQ OQ C
            go_wp2_with fail
            refine (CI2.out _).mono ?_
            rintro e w4 ⟨rfl, rfl⟩
            go_wp2_with fail
            refine (CH2.out _ B3.out).mono ?_
            rintro e w5 ⟨rfl, b5⟩
            have B5 := Lib.hid (bt B3.out b5)
            have O5 := Lib.hid (own_belowAll O3.out b5)
            clear b5 B3 O3
            go_wp2_with fail
            exact ⟨⟨k + 1, by omega, by go_num, Lib.hid (by rw [HN.out]; exact O5.out), B5⟩, by simp only [intOf]; omega⟩
          | true =>
            rw [ha] at hsb CH2
            have HY := Lib.hid (hYY.out hsb)
            clear hsb ha hYY hNN
            go_wp2_with fail
            go_quiet (fail)
            have BQ := Lib.hid (bt hb.out (below_drewW wr nq))
            have OQ := Lib.hid (own_belowAll hO.out (below_drewW wr nq))
            clear hb hO
            go_wp2_with fail
            refine (C.out _ BQ.out).mono ?_
            rintro e w3 ⟨rfl, b3⟩
            have B3 := Lib.hid (bt BQ.out b3)
            have O3 := Lib.hid (own_belowAll OQ.out b3)
            clear b3 BQ OQ C
            go_wp2_with fail
            refine (CI2.out _).mono ?_
            rintro e w4 ⟨rfl, rfl⟩
            go_wp2_with fail
            refine (CH2.out _ B3.out).mono ?_
            rintro e w5 ⟨rfl, b5⟩
            have B5 := Lib.hid (bt B3.out b5)
            have O5 := Lib.hid (own_belowAll O3.out b5)
            clear b5 B3 O3
            go_wp2_with (at_builtin; refine wpList_append_own _ rfl _ _ 22 rfl w.heap.size 2 i0 (.int .i64 0) 1 8 Tryd.underlying22 hi0 hz0 hz1 hz2 rfl (by decide) _ _ _ rfl (own_belowAll O5.out ((Below.refl _ _).alloc (Nat.le_refl _) _)) ⟨w5.heap.size, 0, none⟩ 1 1 [.int .i64 k] rfl rfl (row_new _ [_] _) (iv_cell [(k : Int)]) (by unfold maxLen; omega) (by omega) (by have := B5.out.size; first | omega | (simp; omega)) ?_)
            intro v2 wa hown' hgrow _
            have Owa := Lib.hid (show Own w.heap.size wa v2 (l ++ [(k : Int)]) by unfold Own; rw [iv_append, List.length_append]; first | exact hown' | (rw [List.length_append]; exact hown'))
            have Bwa : Hid (Below w.heap.size w wa) := Lib.hid ((B5.out.alloc B5.out.size _).grown hgrow (by have := B5.out.size; simp; omega) (fun j hj => (World.ownsRow.lt O5.out j hj).1))
            clear hown' hgrow B5 O5
            go_wp2
            exact ⟨⟨k + 1, by omega, by go_num, Lib.hid (by rw [HY.out]; exact Owa.out), Bwa⟩, by simp only [intOf]; omega⟩
    · have hltz : ¬ (k : Int) < (zs.length : Int) := by omega
      have hll2 : Hid (Gw.stF (Gw.stB r c s zs lo hi ks) zs.length = Gw.stF (Gw.stB r c s zs lo hi ks) k) := Lib.hid (by rw [show k = zs.length by omega])
      generalize Gw.stF (Gw.stB r c s zs lo hi ks) k = l at *
      go_wp2_with fail
      go_quiet (fail)
      have BQ := Lib.hid (bt hb.out (below_drewW wr nq))
      have OQ := Lib.hid (own_belowAll hO.out (below_drewW wr nq))
      clear hb hO
      go_wp2_with fail
      go_ret
      exact ⟨_, rfl, by rw [hll2.out]; exact OQ.out, BQ.out⟩
end Go.Proofs.YtobcflcmlejajabDoor

/-
  The cells above others, by the model and by the program (chapter 11). The conditions, of the program's side: the table of ways as it is laid.
-/
import Derived.Test.YthcmpalbhaefbaaDoorDsB
import Derived.Test.YthcmpalbhaefbaaDoorBoM
import Derived.Test.YthcmpalbhaefbaaDoorRlF
import Derived.Test.YthcmpalbhaefbaaDoorRlH
namespace Go.Proofs.YthcmpalbhaefbaaDoor
open Go.RowKit Go.Shelf Go.Deep
set_option linter.unusedVariables false
set_option maxRecDepth 100000
namespace Gw
/-- the code of a question about cells -/
def rqC (r c s : Int) (zs ks : List Int) : Int := odC (ok r c s zs) true (Rl.ri 0 (zs.length - 1) ks)
theorem rq_0 {r c s : Int} {zs ks : List Int} (h : rqC r c s zs ks = 0) : Good r c s zs ∧ ks.Pairwise (· < ·) ∧ (∀ x ∈ ks, 0 ≤ x ∧ x < zs.length) ∧ ks.length ≤ 64 := by
  obtain ⟨h1, -, h3⟩ := od_zero2 h
  have G := (ok_iff _ _ _ _).1 h1
  have hlen := G.len
  unfold Rl.ri at h3
  rw [Bool.and_eq_true, List.all_eq_true] at h3
  have hx : ∀ x ∈ ks, 0 ≤ x ∧ x < zs.length := fun x hx => by have := inB_iff.1 (h3.1 x hx); omega
  refine ⟨G, (Rl.of_up none ks h3.2).2, hx, ?_⟩
  have := Rl.count_sN ks h3.2 (fun x h => by have := hx x h; omega)
  have h2 := List.countP_le_length (p := fun i => (Rl.sN ks).testBit i) (l := List.range 64)
  rw [List.length_range] at h2
  omega
/-- does the descent from a cell that is none of some lead to them? -/
def abB (r c s : Int) (zs ks : List Int) (k : Nat) : Bool := !(ks.any fun y => y == (k : Int)) && (dsc r c s zs 5000 k).any fun x => ks.any fun y => y == x
def abL (r c s : Int) (zs ks : List Int) : List Int := if rqC r c s zs ks = 0 then stF (abB r c s zs ks) zs.length else []
theorem abL_len {r c s : Int} {zs : List Int} (ks : List Int) (h : zs.length ≤ 1048576) : (abL r c s zs ks).length ≤ 1048576 := by
  unfold abL; split
  · exact Nat.le_trans (stF_len _ _) h
  · simp
theorem ab_no {r c s : Int} {zs ks : List Int} (h : rqC r c s zs ks ≠ 0) : abL r c s zs ks = [] := by unfold abL; rw [if_neg h]
theorem ab_yes {r c s : Int} {zs ks : List Int} (h : rqC r c s zs ks = 0) : abL r c s zs ks = stF (abB r c s zs ks) zs.length := by unfold abL; rw [if_pos h]
theorem isCell_of {r c s : Int} {zs : List Int} (G : Good r c s zs) {k : Nat} (hk : k < zs.length) : isCell r c k = true := by
  unfold isCell
  have := G.n
  exact inB_iff.2 (by omega)
end Gw
set_option maxHeartbeats 1600000 in
theorem setOf_same (w : World) (v : Value) (xs : List Int) (hv : Sl w v xs) (hl : xs.length ≤ 1048576) (hx : ∀ x ∈ xs, 0 ≤ x ∧ x < 64) :
    Calls Tryd.prog 76 #[v] w fun e w' => e = .returned (.int .u64 (Rl.sN xs : Int)) ∧ w = w' := by
  obtain ⟨a, cap, rfl⟩ := hv.form
  have HV := Lib.hid hv
  have HX := Lib.hid hx
  clear hv hx
  go_enter Tryd.func76, Tryd.ntmps76
  go_wp2
  go_loop [3, 5, 8] (fun s _ i => ∃ k : Nat, k ≤ xs.length ∧ i = .int .i64 (k : Int) ∧ s = .int .u64 (Rl.sN (xs.take k) : Int)) (fun _ _ i => xs.length - (intOf i).toNat)
  case atStart => exact ⟨0, Nat.zero_le _, rfl, rfl⟩
  case round =>
    obtain ⟨k, hk, rfl, rfl⟩ := hrel
    by_cases hlt : k < xs.length
    · have hltz : (k : Int) < (xs.length : Int) := by omega
      obtain ⟨b, off, cap1, hn, hbl, hcc⟩ := HV.out.atI hlt
      simp only [Value.slice.injEq] at hn
      obtain ⟨rfl, -, rfl⟩ := hn
      have c0 := hcc k hlt
      obtain ⟨q0, q1⟩ := HX.out xs[k] (List.getElem_mem hlt)
      have hst : Hid (Rl.sN (xs.take (k + 1)) = Rl.sN (xs.take k) ||| 2 ^ xs[k].toNat) := Lib.hid (by rw [List.take_succ_eq_append_getElem hlt, Rl.sN_snoc])
      have hsl : Hid (Rl.sN (xs.take k) < 2 ^ 64) := Lib.hid (Rl.sN_lt (fun x h => by have := HX.out x (List.mem_of_mem_take h); omega))
      obtain ⟨n, hn⟩ : ∃ n : Nat, xs[k] = (n : Int) := ⟨xs[k].toNat, (Int.toNat_of_nonneg q0).symm⟩
      rw [hn] at c0 hst q1
      rw [Int.toNat_natCast] at hst
      have C := Lib.hid (fun W => with_any (Rl.sN (xs.take k)) n W hsl.out (by omega))
      clear hcc hn q0 q1
      generalize Rl.sN (xs.take k) = s at *
      go_wp2_with fail
      refine (C.out _).mono ?_
      rintro e w2 ⟨rfl, rfl⟩
      go_wp2_with fail
      exact ⟨⟨k + 1, by omega, by go_num, by rw [hst.out]⟩, by simp only [intOf]; omega⟩
    · have hltz : ¬ (k : Int) < (xs.length : Int) := by omega
      have hkn : Hid (xs.take k = xs) := Lib.hid (List.take_of_length_le (by omega))
      go_wp2
      go_ret
      exact ⟨by rw [hkn.out]; rfl, rfl⟩
set_option maxHeartbeats 6400000 in
theorem aboveLit_any (w : World) (bg bq R C g0 cap Bo k : Nat) (s : Int) (zs ks : List Int) (G : Gw.Good R C s zs) (hk : k < zs.length) (hc : GC w bg R C s (.slice (some ⟨g0, 0, none⟩) zs.length cap)) (ho : Own Bo w (.slice (some ⟨g0, 0, none⟩) zs.length cap) zs) (hA : AspAt w)
    (hq : w.cell? ⟨bq, 5, none⟩ = some (.int .u64 (Rl.sN ks : Int))) (hx : ∀ x ∈ ks, 0 ≤ x ∧ x < 64) :
    Calls Tryd.prog 74 (#[.int .i64 (k : Int)] ++ #[.pointer (some ⟨bg, 0, none⟩), .pointer (some ⟨bq, 0, none⟩)]) w fun e w' => e = .returned (.bool (Gw.abB R C s zs ks k)) ∧ Below w.heap.size w w' := by
  have hlen := G.len
  have CD := Lib.hid (implDescentOf_any w R C s (.slice (some ⟨g0, 0, none⟩) zs.length cap) zs (k : Int) ⟨Bo, g0, cap, rfl, ho⟩ (by omega) hA)
  have hok := (Gw.ok_iff R C s zs).2 G
  have hce := Gw.isCell_of G hk
  have hdl : Gw.dsL R C s zs k = Gw.dsc R C s zs 5000 k := by unfold Gw.dsL; rw [hok, hce, Cd.ls_t, Int.toNat_natCast]
  have hda : Gw.askC R C s zs k = 0 := by unfold Gw.askC; rw [hok, hce, Cd.cd_t]
  rw [hdl, hda] at CD
  have hin := Gw.dsc_in G 5000 k hk
  have hdn := Gw.dsc_len R C s zs 5000 k
  have HE : Hid (Gw.abB R C s zs ks k = (!(ks.any fun y => y == (k : Int)) && (Gw.dsc R C s zs 5000 k).any fun x => ks.any fun y => y == x)) := Lib.hid rfl
  have hs1 : Rl.sN ks < 18446744073709551616 := by simpa using Rl.sN_lt (fun x h => by have := hx x h; omega)
  have hs2 : Rl.sN (Gw.dsc R C s zs 5000 k) < 18446744073709551616 := by simpa using Rl.sN_lt (xs := Gw.dsc R C s zs 5000 k) (fun x h => by have := hin x h; omega)
  have HAND := Lib.hid (Rl.and_any (xs := Gw.dsc R C s zs 5000 k) (ys := ks) (fun x h => (hin x h).1) (fun x h => (hx x h).1))
  have HB := Lib.hid (bits_and_u64_nat (Rl.sN (Gw.dsc R C s zs 5000 k)) (Rl.sN ks) hs2 hs1)
  have CH := Lib.hid (fun W => has_any (Rl.sN ks) k W (by simpa using hs1) (by omega))
  rw [has_eq hx] at CH
  have hxd : Hid (∀ x ∈ Gw.dsc R C s zs 5000 k, 0 ≤ x ∧ x < 64) := Lib.hid (fun x h => by have := hin x h; omega)
  have CS := Lib.hid (fun W u (h : Sl W u (Gw.dsc R C s zs 5000 k)) => setOf_same W u (Gw.dsc R C s zs 5000 k) h (by omega) hxd.out)
  obtain ⟨x0, x1, x2, x3⟩ := hc.four
  have hlq := World.block_lt_of_cell? w _ hq
  clear hdl hda hin hok hce hs1 hs2 hc ho hA hlen
  generalize Gw.dsc R C s zs 5000 k = l at *
  cases hb : ks.any fun y => y == (k : Int) with
  | true =>
    rw [hb] at HE CH
    have HF : Hid (Gw.abB R C s zs ks k = false) := Lib.hid (by rw [HE.out]; rfl)
    clear hb HE HAND HB
    go_enter Tryd.func74, Tryd.ntmps74
    go_wp2_with fail
    refine CD.out.mono ?_
    rintro e w1 ⟨u, rfl, o1, b1⟩
    have B1 := Lib.hid b1
    have y5 := (b1.cell (p := ⟨bq, 5, none⟩) hlq).trans hq
    obtain ⟨ua, ucap, rfl⟩ := (Own.sl o1).form
    clear o1 b1 x0 x1 x2 x3 hq
    go_wp2_with fail
    go_quiet ((go_at_call 75; exact Calls.quiet_of_same ((CH.out _).mono fun _ _ ⟨h, h'⟩ => ⟨h, h'.symm⟩)))
    go_wp2_with fail
    go_ret
    exact ⟨ret_bool HF.out.symm, bt B1.out (below_drewW _ _)⟩
  | false =>
    rw [hb, Bool.not_false, Bool.true_and] at HE
    rw [hb] at CH
    clear hb
    go_enter Tryd.func74, Tryd.ntmps74
    go_wp2_with fail
    refine CD.out.mono ?_
    rintro e w1 ⟨u, rfl, o1, b1⟩
    have B1 := Lib.hid b1
    have y5 := (b1.cell (p := ⟨bq, 5, none⟩) hlq).trans hq
    have SL := Lib.hid (Own.sl o1)
    obtain ⟨ua, ucap, rfl⟩ := (Own.sl o1).form
    have CS2 := Lib.hid (fun n => CS.out (w1.drewN n) _ (SL.out.below (below_drewW w1 n)))
    clear o1 b1 x0 x1 x2 x3 hq CS
    go_wp2_with fail
    go_quiet ((first | (go_at_call 75; exact Calls.quiet_of_same ((CH.out _).mono fun _ _ ⟨h, h'⟩ => ⟨h, h'.symm⟩)) | (go_at_call 76; exact Calls.quiet_of_same ((CS2.out _).mono fun _ _ ⟨h, h'⟩ => ⟨h, h'.symm⟩))))
    go_wp2_with fail
    go_ret
    exact ⟨ret_bool (by rw [HE.out, ← HAND.out, HB.out]), bt B1.out (below_drewW _ _)⟩
theorem own_rfl {B : Nat} {w : World} {v : Value} {l : List Int} (h : Own B w v l) : Own B w v l := h
set_option maxHeartbeats 6400000 in
theorem implAboveCells_any (w : World) (r c s : Int) (v : Value) (zs : List Int) (u : Value) (ks : List Int) (ho : IAt w v zs) (hl : zs.length ≤ 1048576) (hu : Sl w u ks) (hkl : ks.length ≤ 1048576) (hA : AspAt w) :
    Calls Tryd.prog 37 #[.agg #[.int .i64 r, .int .i64 c, .int .i64 s, v], u] w (RIp w (Gw.abL r c s zs ks) (Gw.rqC r c s zs ks)) := by
  obtain ⟨Bo, g0, cap, rfl, hown⟩ := ho
  have HB := Lib.hid (boxG_below w r c s (.slice (some ⟨g0, 0, none⟩) zs.length cap) 28)
  have HK := Lib.hid (fun W (h : Below (boxG w r c s (.slice (some ⟨g0, 0, none⟩) zs.length cap) 28).heap.size (boxG w r c s (.slice (some ⟨g0, 0, none⟩) zs.length cap) 28) W) => (boxG_kept h : GC W w.heap.size r c s (.slice (some ⟨g0, 0, none⟩) zs.length cap)))
  have HO := Lib.hid (hown.belowAll HB.out)
  have HA := Lib.hid (hA.below HB.out)
  have C := Lib.hid (releaseOf_any (boxG w r c s (.slice (some ⟨g0, 0, none⟩) zs.length cap) 28) r c s g0 cap Bo zs u ks true HO.out hl (hu.below HB.out) hkl)
  rw [show odC (Gw.ok r c s zs) true (Rl.ri 0 (zs.length - 1) ks) = Gw.rqC r c s zs ks from rfl] at C
  obtain ⟨ua, ucap, rfl⟩ := hu.form
  unfold boxG at C HB HK HO HA
  clear hown hu hA
  obtain ⟨W2, hW2⟩ : ∃ u, w.alloc (.cells #[.int .i64 r, .int .i64 c, .int .i64 s, .slice (some ⟨g0, 0, none⟩) zs.length cap] 28) = u := ⟨_, rfl⟩
  rw [hW2] at C HB HK HO HA
  obtain ⟨k0, k1, k2, k3⟩ := (HK.out W2 (Below.refl _ _)).four
  have hkl0 := (HK.out W2 (Below.refl _ _)).lt
  by_cases hz : Gw.rqC r c s zs ks = 0
  · obtain ⟨G, hup, hx, hk64⟩ := Gw.rq_0 hz
    have E := Lib.hid (Gw.ab_yes hz)
    have HZ := Lib.hid hz
    have hlen := G.len
    have HX : Hid (∀ x ∈ ks, 0 ≤ x ∧ x < 64) := Lib.hid (fun x h => by have := hx x h; omega)
    have GG := Lib.hid G
    clear hup hx G hk64
    go_enter Tryd.func37, Tryd.ntmps37
    go_wp2_with fail
    refine C.out.mono ?_
    rintro e w1 ⟨⟨h, -⟩ | ⟨-, R, C', g, cap', rfl, rfl, rfl, hr⟩, b1⟩
    · exact absurd HZ.out h
    · have N1 := Lib.hid b1
      have L5 := Lib.hid ((Below.refl w1.heap.size w1).alloc (Nat.le_refl _) (.cells #[.int .i64 R, .int .i64 C', .int .i64 s, .slice (some ⟨g0, 0, none⟩) zs.length cap, .slice (some ⟨g, 0, none⟩) R cap', .int .u64 (Rl.sN ks : Int)] 90))
      have N5 := Lib.hid (bt b1 L5.out)
      have T5 := Lib.hid (Whole.new w1 90 #[.int .i64 R, .int .i64 C', .int .i64 s, .slice (some ⟨g0, 0, none⟩) zs.length cap, .slice (some ⟨g, 0, none⟩) R cap', .int .u64 (Rl.sN ks : Int)])
      have x0 := T5.out.at_ 0; have x1 := T5.out.at_ 1; have x2 := T5.out.at_ 2; have x3 := T5.out.at_ 3; have x4 := T5.out.at_ 4; have x5 := T5.out.at_ 5
      clear b1 hr C hz k0 k1 k2 k3 hkl0
      go_wp2_with fail
      generalize w1.alloc (.cells #[.int .i64 R, .int .i64 C', .int .i64 s, .slice (some ⟨g0, 0, none⟩) zs.length cap, .slice (some ⟨g, 0, none⟩) R cap', .int .u64 (Rl.sN ks : Int)] 90) = W5 at *
      have CW := Lib.hid (cellsWhere_any 74 #[.pointer (some ⟨w.heap.size, 0, none⟩), .pointer (some ⟨w1.heap.size, 0, none⟩)] (Gw.abB R C' s zs ks) W5 R C' s (some ⟨g0, 0, none⟩) zs.length cap (.slice (some ⟨g, 0, none⟩) R cap') (enters_of Tryd.func74 (by kernel_rfl) rfl) hlen
        (fun k hk W hW => aboveLit_any W w.heap.size w1.heap.size R C' g0 cap Bo k s zs ks GG.out hk (HK.out W (bt N5.out hW)) (HO.out.belowAll (bt N5.out hW)) (HA.out.below (bt N5.out hW)) ((T5.out.all hW).at_ 5) HX.out))
      clear x0 x1 x2 x3 x4 x5
      refine CW.out.mono ?_
      rintro e w6 ⟨q, rfl, o6, b6⟩
      have B6 := Lib.hid (bt (bt HB.out N5.out) b6)
      have O6 := Lib.hid (Own.le o6 (bt HB.out N5.out).size)
      clear b6 o6 CW
      go_wp2_with fail
      exact bodyPost_ret (v := .tuple #[q, .int .i64 0]) (by simp [results, Tryd.results37, go_sem]) rfl (by rw [E.out, HZ.out]; exact RIp.yes rfl rfl O6.out B6.out)
  · have hcb : (Gw.rqC r c s zs ks != 0) = true := bne_iff_ne.2 hz
    have E := Lib.hid (Gw.ab_no hz)
    have HZ := Lib.hid hz
    clear hz
    go_enter Tryd.func37, Tryd.ntmps37
    go_wp2_with fail
    refine C.out.mono ?_
    rintro e w1 ⟨⟨h, rfl⟩ | ⟨h, -⟩, b1⟩
    · have BA := Lib.hid (Below.alloc (bt HB.out b1) (bt HB.out b1).size (.cells #[.int .i64 0, .int .i64 0, .int .i64 0, .slice none 0 0, .slice none 0 0, .int .u64 0] 90))
      clear b1 h C k0 k1 k2 k3 hkl0
      generalize Gw.rqC r c s zs ks = code at *
      go_wp2_with fail
      exact bodyPost_ret (v := .tuple #[.slice none 0 0, .int .i64 code]) (by simp [results, Tryd.results37, go_sem]) rfl (by rw [E.out]; exact RIp.no BA.out)
    · exact absurd h HZ.out
end Go.Proofs.YthcmpalbhaefbaaDoor

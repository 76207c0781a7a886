/-
  The area of cells, by the model and by the program. No condition of its own.
-/
import Derived.Test.YtobcflcmlejajabRlH
import Derived.Test.YtobcflcmlejajabRlI
namespace Go.Proofs.Ytobcflcmlejajab
open Go.RowKit Go.Shelf Go.Deep
set_option linter.unusedVariables false
set_option maxRecDepth 100000
namespace Gw
/-- what AreaOf answers -/
def arR (r c s : Int) (zs ks : List Int) : Int × Int := if odC (ok r c s zs) true (Rl.ri 0 (zs.length - 1) ks) = 0 then ((ks.length : Int) * s * s, 0) else (0, odC (ok r c s zs) true (Rl.ri 0 (zs.length - 1) ks))
theorem ri_len {n : Int} {ks : List Int} (h : Rl.ri 0 (n - 1) ks = true) (hn : n ≤ 64) : Rl.up none ks = true ∧ (∀ x ∈ ks, 0 ≤ x ∧ x < 64) ∧ ks.length ≤ 64 := by
  unfold Rl.ri at h
  rw [Bool.and_eq_true, List.all_eq_true] at h
  have hx : ∀ x ∈ ks, 0 ≤ x ∧ x < 64 := fun x hx => by have := inB_iff.1 (h.1 x hx); omega
  refine ⟨h.2, hx, ?_⟩
  rw [← Rl.count_sN ks h.2 hx]
  have := List.countP_le_length (p := fun i => (Rl.sN ks).testBit i) (l := List.range 64)
  rwa [List.length_range] at this
end Gw
theorem area_bd {n s : Int} (n0 : 0 ≤ n) (n1 : n ≤ 64) (s1 : 1 ≤ s) (s2 : s ≤ 100) : (0 ≤ n * s ∧ n * s ≤ 6400) ∧ (0 ≤ n * s * s ∧ n * s * s ≤ 640000) := by
  have h1 : n * s ≤ 64 * 100 := Int.mul_le_mul n1 s2 (by omega) (by omega)
  have h0 : 0 ≤ n * s := Int.mul_nonneg n0 (by omega)
  have h2 : n * s * s ≤ 6400 * 100 := Int.mul_le_mul (by omega) s2 (by omega) (by omega)
  have h3 : 0 ≤ n * s * s := Int.mul_nonneg h0 (by omega)
  omega
set_option maxHeartbeats 1600000 in
theorem specAreaOf_any (w : World) (r c s : Int) (v : Value) (zs : List Int) (u : Value) (ks : List Int) (hv : Sl w v zs) (hl : zs.length ≤ 1048576) (hu : Sl w u ks) (hkl : ks.length ≤ 1048576) :
    Calls Try.prog 5 #[.agg #[.int .i64 r, .int .i64 c, .int .i64 s, v], u] w fun e w' => e = .returned (.tuple #[.int .i64 (Gw.arR r c s zs ks).1, .int .i64 (Gw.arR r c s zs ks).2]) ∧ Below w.heap.size w w' := by
  have HB := Lib.hid (boxG_below w r c s v 28)
  have C := Lib.hid (l11Ask_any (boxG w r c s v 28) w.heap.size r c s v u zs ks (boxG_cells w r c s v 28) (hv.below HB.out) hl (hu.below HB.out) hkl)
  have HK := Lib.hid (fun W (h : Below (boxG w r c s v 28).heap.size (boxG w r c s v 28) W) => (boxG_kept h : GC W w.heap.size r c s v))
  obtain ⟨ua, ucap, rfl⟩ := hu.form
  clear hv hu
  have hdef : Gw.arR r c s zs ks = if odC (Gw.ok r c s zs) true (Rl.ri 0 (zs.length - 1) ks) = 0 then ((ks.length : Int) * s * s, 0) else (0, odC (Gw.ok r c s zs) true (Rl.ri 0 (zs.length - 1) ks)) := rfl
  by_cases hz : odC (Gw.ok r c s zs) true (Rl.ri 0 (zs.length - 1) ks) = 0
  · obtain ⟨hq, -, h3⟩ := od_zero2 hz
    have G := (Gw.ok_iff _ _ _ _).1 hq
    obtain ⟨-, -, hk64⟩ := Gw.ri_len h3 (by have := G.len; omega)
    obtain ⟨⟨m0, m1⟩, m2, m3⟩ := area_bd (n := (ks.length : Int)) (s := s) (by omega) (by omega) G.s1 G.s2
    have w1 : IntKind.i64.wrap ((ks.length : Int) * s) = (ks.length : Int) * s := IntWalk.i64_in _ ⟨by omega, by omega⟩
    have w2 : IntKind.i64.wrap ((ks.length : Int) * s * s) = (ks.length : Int) * s * s := IntWalk.i64_in _ ⟨by omega, by omega⟩
    have w1' : wrap64 ((ks.length : Int) * s) = (ks.length : Int) * s := IntWalk.wrap64_in _ ⟨by omega, by omega⟩
    have w2' : wrap64 ((ks.length : Int) * s * s) = (ks.length : Int) * s * s := IntWalk.wrap64_in _ ⟨by omega, by omega⟩
    have E := Lib.hid (hdef.trans (if_pos hz))
    rw [hz] at C
    clear hdef hz hq h3 G hk64 m0 m1 m2 m3
    go_enter Try.func5, Try.ntmps5
    go_wp2_with fail
    refine C.out.mono ?_
    rintro e w1 ⟨rfl, b1⟩
    have B1 := Lib.hid (bt HB.out b1)
    obtain ⟨x0, x1, x2, x3⟩ := (HK.out w1 b1).four
    clear b1
    go_wp2_with fail
    exact bodyPost_ret (v := .tuple #[.int .i64 ((ks.length : Int) * s * s), .int .i64 0]) (by simp [results, Try.results5, go_sem]) rfl ⟨by rw [E.out], B1.out⟩
  · have E := Lib.hid (hdef.trans (if_neg hz))
    clear hdef
    generalize odC (Gw.ok r c s zs) true (Rl.ri 0 (zs.length - 1) ks) = code at *
    go_enter Try.func5, Try.ntmps5
    go_wp2_with fail
    refine C.out.mono ?_
    rintro e w1 ⟨rfl, b1⟩
    have B1 := Lib.hid (bt HB.out b1)
    clear b1
    go_wp2_with fail
    exact bodyPost_ret (v := .tuple #[.int .i64 0, .int .i64 code]) (by simp [results, Try.results5, go_sem]) rfl ⟨by rw [E.out], B1.out⟩
set_option maxHeartbeats 3200000 in
theorem implAreaOf_any (w : World) (r c s : Int) (v : Value) (zs : List Int) (u : Value) (ks : List Int) (ho : IAt w v zs) (hl : zs.length ≤ 1048576) (hu : Sl w u ks) (hkl : ks.length ≤ 1048576) :
    Calls Try.prog 8 #[.agg #[.int .i64 r, .int .i64 c, .int .i64 s, v], u] w fun e w' => e = .returned (.tuple #[.int .i64 (Gw.arR r c s zs ks).1, .int .i64 (Gw.arR r c s zs ks).2]) ∧ Below w.heap.size w w' := by
  obtain ⟨Bo, g0, cap, rfl, hown⟩ := ho
  have HB := Lib.hid (boxG_below w r c s (.slice (some ⟨g0, 0, none⟩) zs.length cap) 28)
  have HK := Lib.hid (fun W (h : Below (boxG w r c s (.slice (some ⟨g0, 0, none⟩) zs.length cap) 28).heap.size (boxG w r c s (.slice (some ⟨g0, 0, none⟩) zs.length cap) 28) W) => (boxG_kept h : GC W w.heap.size r c s (.slice (some ⟨g0, 0, none⟩) zs.length cap)))
  have C := Lib.hid (releaseOf_any (boxG w r c s (.slice (some ⟨g0, 0, none⟩) zs.length cap) 28) r c s g0 cap Bo zs u ks true (hown.belowAll HB.out) hl (hu.below HB.out) hkl)
  obtain ⟨x0, x1, x2, x3⟩ := (boxG_cells w r c s (.slice (some ⟨g0, 0, none⟩) zs.length cap) 28).four
  obtain ⟨ua, ucap, rfl⟩ := hu.form
  clear hown hu
  have hdef : Gw.arR r c s zs ks = if odC (Gw.ok r c s zs) true (Rl.ri 0 (zs.length - 1) ks) = 0 then ((ks.length : Int) * s * s, 0) else (0, odC (Gw.ok r c s zs) true (Rl.ri 0 (zs.length - 1) ks)) := rfl
  unfold boxG at C x0 x1 x2 x3
  by_cases hz : odC (Gw.ok r c s zs) true (Rl.ri 0 (zs.length - 1) ks) = 0
  · obtain ⟨hq, -, h3⟩ := od_zero2 hz
    have G := (Gw.ok_iff _ _ _ _).1 hq
    obtain ⟨hup, hx, hk64⟩ := Gw.ri_len h3 (by have := G.len; omega)
    obtain ⟨⟨m0, m1⟩, m2, m3⟩ := area_bd (n := (ks.length : Int)) (s := s) (by omega) (by omega) G.s1 G.s2
    have w1 : IntKind.i64.wrap ((ks.length : Int) * s) = (ks.length : Int) * s := IntWalk.i64_in _ ⟨by omega, by omega⟩
    have w2 : IntKind.i64.wrap ((ks.length : Int) * s * s) = (ks.length : Int) * s * s := IntWalk.i64_in _ ⟨by omega, by omega⟩
    have w1' : wrap64 ((ks.length : Int) * s) = (ks.length : Int) * s := IntWalk.wrap64_in _ ⟨by omega, by omega⟩
    have w2' : wrap64 ((ks.length : Int) * s * s) = (ks.length : Int) * s * s := IntWalk.wrap64_in _ ⟨by omega, by omega⟩
    have E := Lib.hid (hdef.trans (if_pos hz))
    have CS := Lib.hid (fun W => (size_any (Rl.sN ks) W (by have := Rl.sN_lt (xs := ks) (fun x h => by have := hx x h; omega); simpa using this)).mono (fun _ _ ⟨h, h2⟩ => (⟨h, h2.symm⟩ : _ ∧ _)))
    rw [Rl.count_sN ks hup hx] at CS
    have HZ := Lib.hid hz
    clear hdef hz hq h3 G hk64 m0 m1 m2 m3 hup hx
    go_enter Try.func8, Try.ntmps8
    go_wp2_with fail
    refine C.out.mono ?_
    rintro e w1 ⟨⟨hne, -⟩ | ⟨-, R, C', g, cap', hR, hC, rfl, -⟩, b1⟩
    · exact absurd HZ.out hne
    · have N1 := Lib.hid b1
      have B1 := Lib.hid (bt HB.out b1)
      have BA := Lib.hid (B1.out.alloc B1.out.size (.cells #[.int .i64 R, .int .i64 C', .int .i64 s, .slice (some ⟨g0, 0, none⟩) zs.length cap, .slice (some ⟨g, 0, none⟩) R cap', .int .u64 (Rl.sN ks : Int)] 43))
      have TA := Lib.hid (Whole.new w1 43 #[.int .i64 R, .int .i64 C', .int .i64 s, .slice (some ⟨g0, 0, none⟩) zs.length cap, .slice (some ⟨g, 0, none⟩) R cap', .int .u64 (Rl.sN ks : Int)])
      have NA := Lib.hid (Below.alloc N1.out N1.out.size (.cells #[.int .i64 R, .int .i64 C', .int .i64 s, .slice (some ⟨g0, 0, none⟩) zs.length cap, .slice (some ⟨g, 0, none⟩) R cap', .int .u64 (Rl.sN ks : Int)] 43))
      clear b1 x0 x1 x2 x3 hR hC
      generalize (Rl.sN ks : Nat) = sn at *
      go_wp2_with fail
      generalize w1.alloc (.cells #[.int .i64 R, .int .i64 C', .int .i64 s, .slice (some ⟨g0, 0, none⟩) zs.length cap, .slice (some ⟨g, 0, none⟩) R cap', .int .u64 (sn : Int)] 43) = W2 at *
      have y5 := TA.out.at_ 5
      obtain ⟨x0, x1, x2, x3⟩ := (HK.out W2 NA.out).four
      go_quiet (first | (go_at_call 14; refine Calls.quiet_of_same (CS.out _)))
      have BQ := Lib.hid (bt BA.out (below_drewW W2 nq))
      go_wp2_with fail
      exact bodyPost_ret (v := .tuple #[.int .i64 ((ks.length : Int) * s * s), .int .i64 0]) (by simp [results, Try.results8, go_sem]) rfl ⟨by rw [E.out], BQ.out⟩
  · have E := Lib.hid (hdef.trans (if_neg hz))
    have HZ := Lib.hid hz
    have hcv := od_vals (Gw.ok r c s zs) true (Rl.ri 0 (zs.length - 1) ks)
    clear hdef
    generalize odC (Gw.ok r c s zs) true (Rl.ri 0 (zs.length - 1) ks) = code at *
    have hv : code = 1 ∨ code = 2 ∨ code = 7 := by rcases hcv with h | h | h | h <;> first | exact absurd h hz | exact Or.inl h | exact Or.inr (Or.inl h) | exact Or.inr (Or.inr h)
    clear hz hcv
    go_enter Try.func8, Try.ntmps8
    go_wp2_with fail
    refine C.out.mono ?_
    rintro e w1 ⟨⟨-, rfl⟩ | ⟨h0, -⟩, b1⟩
    · have B1 := Lib.hid (bt HB.out b1)
      have BA := Lib.hid (B1.out.alloc B1.out.size (.cells #[.int .i64 0, .int .i64 0, .int .i64 0, .slice none 0 0, .slice none 0 0, .int .u64 0] 43))
      clear b1
      rcases hv with rfl | rfl | rfl
      all_goals (
        go_wp2_with fail
        exact bodyPost_ret (by simp [results, Try.results8, go_sem]; rfl) rfl ⟨by rw [E.out], BA.out⟩)
    · exact absurd h0 HZ.out
end Go.Proofs.Ytobcflcmlejajab

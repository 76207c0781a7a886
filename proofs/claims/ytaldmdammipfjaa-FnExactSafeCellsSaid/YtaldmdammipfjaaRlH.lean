/-
  What a question about a grid and cells is about, and its code, by the model and by the program. No condition of its own.
-/
import Derived.Test.YtaldmdammipfjaaRlC
import Derived.Test.YtaldmdammipfjaaTrC
import Derived.Test.YtaldmdammipfjaaGdV
import Derived.Test.YtaldmdammipfjaaFdC
namespace Go.Proofs.Ytaldmdammipfjaa
open Go.RowKit Go.Shelf Go.Deep
set_option linter.unusedVariables false
set_option maxRecDepth 100000
set_option maxHeartbeats 1600000 in
theorem l11Cells_any (w : World) (b : Nat) (r c s : Int) (v u : Value) (xs : List Int) (hc : GC w b r c s v) (r1 : 1 ≤ r) (r2 : r ≤ 8) (c1 : 1 ≤ c) (c2 : c ≤ 8) (hu : Sl w u xs) (hl : xs.length ≤ 1048576) :
    Calls Try.prog 88 #[.pointer (some ⟨b, 0, none⟩), u] w fun e w' => e = .returned (.bool (Rl.ri 0 (r * c - 1) xs)) ∧ Below w.heap.size w w' := by
  have KC := Lib.hid (fun W (h : Below w.heap.size w W) => (hc.all h).four)
  obtain ⟨x0, x1, -, -⟩ := hc.four
  have hlt := hc.lt
  have hp : 0 ≤ r * c ∧ r * c ≤ 64 := by
    have h1 := Int.mul_nonneg (show 0 ≤ r by omega) (show 0 ≤ c by omega)
    have h2 := Int.mul_le_mul r2 c2 (show 0 ≤ c by omega) (show (0 : Int) ≤ 8 by omega)
    omega
  have hw1 : IntKind.i64.wrap (r * c) = r * c := IntWalk.i64_in _ ⟨by omega, by omega⟩
  have hw2 : IntKind.i64.wrap (r * c - 1) = r * c - 1 := IntWalk.i64_in _ ⟨by omega, by omega⟩
  have CR := Lib.hid (fun W (h : Below w.heap.size w W) => l00Rises_any W u xs 0 (r * c - 1) (hu.below h) hl)
  obtain ⟨ua, ucap, rfl⟩ := hu.form
  clear hc r1 r2 c1 c2 hp hu
  generalize Rl.ri 0 (r * c - 1) xs = q at *
  go_enter Try.func88, Try.ntmps88
  go_wp2_with fail
  go_region_held3 (fun w' => w'.cell? ⟨b, 0, none⟩ = some (.int .i64 r) ∧ w'.cell? ⟨b, 1, none⟩ = some (.int .i64 c)) (go_keep)
    (first | (go_at_call 101; refine (CR.out _ (below_drewW _ 1)).mono ?_; rintro e wA ⟨rfl, bA⟩; have BA := Lib.hid (bt (below_drewW w 1) bA); clear bA; obtain ⟨y0, y1, -, -⟩ := KC.out wA BA.out))
  all_goals (
    go_wp2_with fail
    go_ret
    exact ⟨rfl, BA.out⟩)
set_option maxHeartbeats 1600000 in
theorem l11Ask_any (w : World) (b : Nat) (r c s : Int) (v u : Value) (zs xs : List Int) (hc : GC w b r c s v) (hv : Sl w v zs) (hl : zs.length ≤ 1048576) (hu : Sl w u xs) (hx : xs.length ≤ 1048576) :
    Calls Try.prog 59 #[.pointer (some ⟨b, 0, none⟩), u] w fun e w' => e = .returned (.int .i64 (odC (Gw.ok r c s zs) true (Rl.ri 0 (zs.length - 1) xs))) ∧ Below w.heap.size w w' := by
  have C := Lib.hid (l09Ok_any w b r c s v zs hc hv hl)
  have HC := Lib.hid hc
  have HU := Lib.hid hu
  obtain ⟨ua, ucap, rfl⟩ := hu.form
  unfold odC
  clear hv hc hu
  cases hq : Gw.ok r c s zs with
  | false =>
    rw [hq] at C
    rw [Cd.cd_f]
    clear hq
    go_enter Try.func59, Try.ntmps59
    go_wp2_with fail
    refine C.out.mono ?_
    rintro e w1 ⟨rfl, b1⟩
    have B1 := Lib.hid b1
    clear b1
    go_wp2_with fail
    go_ret
    exact ⟨rfl, B1.out⟩
  | true =>
    have G := Lib.hid ((Gw.ok_iff _ _ _ _).1 hq)
    have CK := Lib.hid (fun W (h : Below w.heap.size w W) => l11Cells_any W b r c s v _ xs (HC.out.all h) G.out.r1 G.out.r2 G.out.c1 G.out.c2 (HU.out.below h) hx)
    have hn : r * c - 1 = (zs.length : Int) - 1 := by rw [G.out.n]
    rw [hn] at CK
    rw [hq] at C
    rw [Cd.cd_t]
    clear hq hn
    cases h3 : Rl.ri 0 (zs.length - 1) xs with
    | false =>
      rw [h3] at CK
      clear h3
      go_enter Try.func59, Try.ntmps59
      go_wp2_with fail
      refine C.out.mono ?_
      rintro e w1 ⟨rfl, b1⟩
      have B1 := Lib.hid b1
      clear b1
      go_wp2_with fail
      refine (CK.out _ B1.out).mono ?_
      rintro e w2 ⟨rfl, b2⟩
      have B2 := Lib.hid (bt B1.out b2)
      clear b2
      go_wp2_with fail
      go_ret
      exact ⟨rfl, B2.out⟩
    | true =>
      rw [h3] at CK
      clear h3
      go_enter Try.func59, Try.ntmps59
      go_wp2_with fail
      refine C.out.mono ?_
      rintro e w1 ⟨rfl, b1⟩
      have B1 := Lib.hid b1
      clear b1
      go_wp2_with fail
      refine (CK.out _ B1.out).mono ?_
      rintro e w2 ⟨rfl, b2⟩
      have B2 := Lib.hid (bt B1.out b2)
      clear b2
      go_wp2_with fail
      go_ret
      exact ⟨rfl, B2.out⟩
theorem od_vals (a b o : Bool) : odC a b o = 0 ∨ odC a b o = 1 ∨ odC a b o = 2 ∨ odC a b o = 7 := by
  cases a <;> cases b <;> cases o <;> decide
theorem od_zero2 {a b o : Bool} (h : odC a b o = 0) : a = true ∧ b = true ∧ o = true := by
  cases a <;> cases b <;> cases o <;> first | exact ⟨rfl, rfl, rfl⟩ | (revert h; decide)
theorem put6 {w : World} {q : Nat} {t : TypeId} {z0 z1 z2 z3 z4 z5 : Value} (h : Whole w q t #[z0, z1, z2, z3, z4, z5]) (u0 u1 u2 u3 u4 u5 : Value) :
    Whole ((((((w.setCell ⟨q, 0, none⟩ u0).setCell ⟨q, 1, none⟩ u1).setCell ⟨q, 2, none⟩ u2).setCell ⟨q, 3, none⟩ u3).setCell ⟨q, 4, none⟩ u4).setCell ⟨q, 5, none⟩ u5) q t #[u0, u1, u2, u3, u4, u5] := by
  have := (((((Whole.put h 0 u0).put 1 u1).put 2 u2).put 3 u3).put 4 u4).put 5 u5
  simpa using this
theorem below6 {w0 w : World} {q : Nat} (h : Below w0.heap.size w0 w) (hq : w0.heap.size ≤ q) (u0 u1 u2 u3 u4 u5 : Value) :
    Below w0.heap.size w0 ((((((w.setCell ⟨q, 0, none⟩ u0).setCell ⟨q, 1, none⟩ u1).setCell ⟨q, 2, none⟩ u2).setCell ⟨q, 3, none⟩ u3).setCell ⟨q, 4, none⟩ u4).setCell ⟨q, 5, none⟩ u5) :=
  (((((h.setCell (p := ⟨q, 0, none⟩) hq _).setCell (p := ⟨q, 1, none⟩) hq _).setCell (p := ⟨q, 2, none⟩) hq _).setCell (p := ⟨q, 3, none⟩) hq _).setCell (p := ⟨q, 4, none⟩) hq _).setCell (p := ⟨q, 5, none⟩) hq _
/-- all but block q lie as they lay -/
theorem far6 {w : World} {q p i : Nat} (u0 u1 u2 u3 u4 u5 : Value) (hn : p ≠ q) : ((((((w.setCell ⟨q, 0, none⟩ u0).setCell ⟨q, 1, none⟩ u1).setCell ⟨q, 2, none⟩ u2).setCell ⟨q, 3, none⟩ u3).setCell ⟨q, 4, none⟩ u4).setCell ⟨q, 5, none⟩ u5).cell? ⟨p, i, none⟩ = w.cell? ⟨p, i, none⟩ := by
  rw [World.cell?_setCell_other, World.cell?_setCell_other, World.cell?_setCell_other, World.cell?_setCell_other, World.cell?_setCell_other, World.cell?_setCell_other] <;> first | (simp; done) | simpa using hn
theorem RowsAt.put6 {w : World} {g hb ho C R q : Nat} (h : RowsAt w g hb ho C R) (hn : g ≠ q) (u0 u1 u2 u3 u4 u5 : Value) : RowsAt ((((((w.setCell ⟨q, 0, none⟩ u0).setCell ⟨q, 1, none⟩ u1).setCell ⟨q, 2, none⟩ u2).setCell ⟨q, 3, none⟩ u3).setCell ⟨q, 4, none⟩ u4).setCell ⟨q, 5, none⟩ u5) g hb ho C R :=
  ⟨by simpa using h.1, fun k hk => (far6 _ _ _ _ _ _ hn).trans (h.2 k hk)⟩
theorem own_cap6 {B g n cap : Nat} {w : World} {zs : List Int} (h : Own B w (.slice (some ⟨g, 0, none⟩) n cap) zs) : n ≤ cap := by
  rcases h.2 with ⟨hv, _⟩ | ⟨g', cap', cur, hv, _, _, hc, _⟩
  · cases hv
  · simp only [Value.slice.injEq] at hv; omega
theorem good_len6 {R C : Nat} {s : Int} {zs : List Int} (G : Gw.Good R C s zs) : zs.length = R * C := by have := G.n; exact_mod_cast this
set_option maxHeartbeats 6400000 in
theorem releaseOf_any (w : World) (r c s : Int) (g0 cap Bo : Nat) (zs : List Int) (u : Value) (ks : List Int) (st : Bool) (ho : Own Bo w (.slice (some ⟨g0, 0, none⟩) zs.length cap) zs) (hl : zs.length ≤ 1048576) (hu : Sl w u ks) (hkl : ks.length ≤ 1048576) :
    Calls Try.prog 61 #[.agg #[.int .i64 r, .int .i64 c, .int .i64 s, .slice (some ⟨g0, 0, none⟩) zs.length cap], u, .bool st] w fun e w' =>
      ((odC (Gw.ok r c s zs) st (Rl.ri 0 (zs.length - 1) ks) ≠ 0 ∧ e = .returned (.tuple #[.agg #[.int .i64 0, .int .i64 0, .int .i64 0, .slice none 0 0, .slice none 0 0, .int .u64 0], .int .i64 (odC (Gw.ok r c s zs) st (Rl.ri 0 (zs.length - 1) ks))])) ∨
       (odC (Gw.ok r c s zs) st (Rl.ri 0 (zs.length - 1) ks) = 0 ∧ ∃ R C g cap' : Nat, r = (R : Int) ∧ c = (C : Int) ∧ e = .returned (.tuple #[.agg #[.int .i64 R, .int .i64 C, .int .i64 s, .slice (some ⟨g0, 0, none⟩) zs.length cap, .slice (some ⟨g, 0, none⟩) R cap', .int .u64 (Rl.sN ks : Int)], .int .i64 0]) ∧ RowsAt w' g g0 0 C R)) ∧ Below w.heap.size w w' := by
  have HB0 := Lib.hid (boxG_below w r c s (.slice (some ⟨g0, 0, none⟩) zs.length cap) 29)
  have HB : Hid (Below w.heap.size w ((boxG w r c s (.slice (some ⟨g0, 0, none⟩) zs.length cap) 29).alloc (.cells #[.int .i64 0, .int .i64 0, .int .i64 0, .slice none 0 0, .slice none 0 0, .int .u64 0] 91))) := Lib.hid (HB0.out.alloc HB0.out.size _)
  have R2 := Lib.hid (Whole.new (boxG w r c s (.slice (some ⟨g0, 0, none⟩) zs.length cap) 29) 91 #[.int .i64 0, .int .i64 0, .int .i64 0, .slice none 0 0, .slice none 0 0, .int .u64 0])
  have K2 : Hid (GC ((boxG w r c s (.slice (some ⟨g0, 0, none⟩) zs.length cap) 29).alloc (.cells #[.int .i64 0, .int .i64 0, .int .i64 0, .slice none 0 0, .slice none 0 0, .int .u64 0] 91)) w.heap.size r c s (.slice (some ⟨g0, 0, none⟩) zs.length cap)) := Lib.hid (boxG_kept ((Below.refl _ _).alloc (Nat.le_refl _) _))
  rw [boxG_size] at R2
  have HO := Lib.hid (ho.belowAll HB.out)
  have HU := Lib.hid (hu.below HB.out)
  unfold boxG at HB R2 K2 HO HU
  clear ho hu HB0
  obtain ⟨W3, hW3⟩ : ∃ W3, (w.alloc (.cells #[.int .i64 r, .int .i64 c, .int .i64 s, .slice (some ⟨g0, 0, none⟩) zs.length cap] 29)).alloc (.cells #[.int .i64 0, .int .i64 0, .int .i64 0, .slice none 0 0, .slice none 0 0, .int .u64 0] 91) = W3 := ⟨_, rfl⟩
  rw [hW3] at HB R2 K2 HO HU
  have CV := Lib.hid (fun W (h : Below W3.heap.size W3 W) => implValidGrid_any W r c s _ zs (HO.out.belowAll h).sl hl)
  have CI := Lib.hid (fun W (h : Below W3.heap.size W3 W) => areIndices_any W u ks (zs.length : Int) (by omega) (by omega) (HU.out.below h) hkl)
  have CO := Lib.hid (fun a b o W => orderedCode_any a b o W)
  have KK := Lib.hid (fun W (h : Below W3.heap.size W3 W) => (K2.out.all h).four)
  have BD : Hid (Below W3.heap.size W3 W3.drew) := Lib.hid (below_drewW W3 1)
  obtain ⟨x0, x1, x2, x3⟩ := K2.out.four
  obtain ⟨ua, ucap, rfl⟩ := HU.out.form
  by_cases hz : odC (Gw.ok r c s zs) st (Rl.ri 0 (zs.length - 1) ks) = 0
  · obtain ⟨hq, rfl, h3⟩ := od_zero2 hz
    have G := (Gw.ok_iff _ _ _ _).1 hq
    have HX : Hid (∀ x ∈ ks, 0 ≤ x ∧ x < 64) := Lib.hid (fun x hx => by
      have hlen := G.len
      unfold Rl.ri at h3
      rw [Bool.and_eq_true, List.all_eq_true] at h3
      have := Gw.inB_iff.1 (h3.1 x hx)
      omega)
    rw [hq] at CV
    rw [h3] at CI
    have CO0 := Lib.hid (CO.out true true true)
    have hcode : odC true true true = 0 := rfl
    rw [hcode] at CO0
    obtain ⟨R, rfl⟩ : ∃ R : Nat, r = (R : Int) := ⟨r.toNat, (Int.toNat_of_nonneg (by have := G.r1; omega)).symm⟩
    obtain ⟨C', rfl⟩ : ∃ C : Nat, c = (C : Int) := ⟨c.toNat, (Int.toNat_of_nonneg (by have := G.c1; omega)).symm⟩
    have hlen := G.len
    have hL : zs.length = R * C' := good_len6 G
    have g1 := G.r1; have g2 := G.r2; have g3 := G.c1; have g4 := G.c2
    have CT := Lib.hid (fun W (h : Below W3.heap.size W3 W) => terrainOf_any W R C' g0 0 zs.length cap s hL (by omega) (own_cap6 HO.out) (by omega) (by omega) (by omega) (by omega))
    have CZ := Lib.hid (fun W (h : Below W3.heap.size W3 W) => setOf_any W (.slice ua ks.length ucap) ks (HU.out.below h) hkl HX.out)
    have HZ := Lib.hid hz
    clear hz hq h3 hcode hL g1 g2 g3 g4 G CO
    go_enter Try.func61, Try.ntmps61
    go_wp2_with fail
    go_region_held3 (fun w' => w'.cell? ⟨w.heap.size, 0, none⟩ = some (.int .i64 R) ∧ w'.cell? ⟨w.heap.size, 1, none⟩ = some (.int .i64 C') ∧ w'.cell? ⟨w.heap.size, 2, none⟩ = some (.int .i64 s) ∧ w'.cell? ⟨w.heap.size, 3, none⟩ = some (.slice (some ⟨g0, 0, none⟩) zs.length cap)) (go_keep)
      (first
        | (go_at_call 41; with_reducible refine Calls.mono (CV.out wA BA.out) ?_; rintro e wB ⟨rfl, bB⟩; have BB := Lib.hid (bt BA.out bB); clear bB; obtain ⟨y0, y1, y2, y3⟩ := KK.out wB BB.out)
        | (go_at_call 78; with_reducible refine Calls.mono (CI.out wA BA.out) ?_; rintro e wB ⟨rfl, bB⟩; have BB := Lib.hid (bt BA.out bB); clear bB; obtain ⟨y0, y1, y2, y3⟩ := KK.out wB BB.out)
        | (go_at_call 41; with_reducible refine Calls.mono (CV.out W3.drew BD.out) ?_; rintro e wA ⟨rfl, bA⟩; have BA := Lib.hid (bt BD.out bA); clear bA; obtain ⟨y0, y1, y2, y3⟩ := KK.out wA BA.out)
        | (go_at_call 78; with_reducible refine Calls.mono (CI.out W3.drew BD.out) ?_; rintro e wA ⟨rfl, bA⟩; have BA := Lib.hid (bt BD.out bA); clear bA; obtain ⟨y0, y1, y2, y3⟩ := KK.out wA BA.out)
        | (go_at_call 47; refine (CO0.out _).mono ?_; rintro e wC ⟨rfl, rfl⟩))
    all_goals (
      go_wp2_with fail
      refine (CT.out _ BB.out).mono ?_
      rintro e w4 ⟨g, cap', rfl, hr, hg, b4⟩
      have N4 := Lib.hid (bt BB.out b4)
      have hgg : Hid (w.heap.size + 1 < g) := Lib.hid (by have h1 := (R2.out.all BB.out).lt; omega)
      have HR4 := Lib.hid hr
      clear b4 hr hg
      go_wp2_with fail
      refine (CZ.out _ N4.out).mono ?_
      rintro e w6 ⟨rfl, b6⟩
      have N6 := Lib.hid (bt N4.out b6)
      have HR := Lib.hid (HR4.out.all b6)
      clear b6 HR4
      have R6 := R2.out.all N6.out
      have z0 := R6.free 0; have z1 := R6.free 1; have z2 := R6.free 2; have z3 := R6.free 3; have z4 := R6.free 4; have z5 := R6.free 5
      have q0 := R6.at_ 0; have q1 := R6.at_ 1; have q2 := R6.at_ 2; have q3 := R6.at_ 3; have q4 := R6.at_ 4; have q5 := R6.at_ 5
      clear R6
      have P := Lib.hid (put6 (R2.out.all N6.out) (.int .i64 R) (.int .i64 C') (.int .i64 s) (.slice (some ⟨g0, 0, none⟩) zs.length cap) (.slice (some ⟨g, 0, none⟩) R cap') (.int .u64 (Rl.sN ks : Int)))
      have BP := Lib.hid (below6 (bt HB.out N6.out) (show w.heap.size ≤ w.heap.size + 1 by omega) (.int .i64 R) (.int .i64 C') (.int .i64 s) (.slice (some ⟨g0, 0, none⟩) zs.length cap) (.slice (some ⟨g, 0, none⟩) R cap') (.int .u64 (Rl.sN ks : Int)))
      have HRP := Lib.hid (HR.out.put6 (q := w.heap.size + 1) (by have := hgg.out; omega) (.int .i64 R) (.int .i64 C') (.int .i64 s) (.slice (some ⟨g0, 0, none⟩) zs.length cap) (.slice (some ⟨g, 0, none⟩) R cap') (.int .u64 (Rl.sN ks : Int)))
      go_wp2_with fail
      generalize (((((w6.setCell ⟨w.heap.size + 1, 0, none⟩ (.int .i64 R)).setCell ⟨w.heap.size + 1, 1, none⟩ (.int .i64 C')).setCell ⟨w.heap.size + 1, 2, none⟩ (.int .i64 s)).setCell ⟨w.heap.size + 1, 3, none⟩ (.slice (some ⟨g0, 0, none⟩) zs.length cap)).setCell ⟨w.heap.size + 1, 4, none⟩ (.slice (some ⟨g, 0, none⟩) R cap')).setCell ⟨w.heap.size + 1, 5, none⟩ (.int .u64 (Rl.sN ks : Int)) = W9 at *
      have d0' := P.out.at_ 0; have d1' := P.out.at_ 1; have d2' := P.out.at_ 2; have d3' := P.out.at_ 3; have d4' := P.out.at_ 4; have d5' := P.out.at_ 5
      exact bodyPost_ret (v := .tuple #[.agg #[(.int .i64 R), (.int .i64 C'), (.int .i64 s), (.slice (some ⟨g0, 0, none⟩) zs.length cap), (.slice (some ⟨g, 0, none⟩) R cap'), (.int .u64 (Rl.sN ks : Int))], .int .i64 0]) (by simp [results, Try.results61, go_sem, d0', d1', d2', d3', d4', d5']) rfl ⟨Or.inr ⟨HZ.out, R, C', g, cap', rfl, rfl, rfl, HRP.out⟩, BP.out⟩)
  · have CO1 := Lib.hid (CO.out (Gw.ok r c s zs) st (Rl.ri 0 (zs.length - 1) ks))
    clear CO
    have hcv := od_vals (Gw.ok r c s zs) st (Rl.ri 0 (zs.length - 1) ks)
    generalize odC (Gw.ok r c s zs) st (Rl.ri 0 (zs.length - 1) ks) = code at *
    have HZ := Lib.hid hz
    generalize Gw.ok r c s zs = okb at *
    generalize Rl.ri 0 (zs.length - 1) ks = rib at *
    have hv : code = 1 ∨ code = 2 ∨ code = 7 := by rcases hcv with h | h | h | h <;> first | exact absurd h hz | exact Or.inl h | exact Or.inr (Or.inl h) | exact Or.inr (Or.inr h)
    clear hz hcv
    rcases hv with rfl | rfl | rfl
    · go_enter Try.func61, Try.ntmps61
      go_wp2_with fail
      go_region_held3 (fun w' => w'.cell? ⟨w.heap.size, 0, none⟩ = some (.int .i64 r) ∧ w'.cell? ⟨w.heap.size, 1, none⟩ = some (.int .i64 c) ∧ w'.cell? ⟨w.heap.size, 2, none⟩ = some (.int .i64 s) ∧ w'.cell? ⟨w.heap.size, 3, none⟩ = some (.slice (some ⟨g0, 0, none⟩) zs.length cap)) (go_keep)
        (first
          | (go_at_call 41; with_reducible refine Calls.mono (CV.out wA BA.out) ?_; rintro e wB ⟨rfl, bB⟩; have BB := Lib.hid (bt BA.out bB); clear bB; obtain ⟨y0, y1, y2, y3⟩ := KK.out wB BB.out)
          | (go_at_call 78; with_reducible refine Calls.mono (CI.out wA BA.out) ?_; rintro e wB ⟨rfl, bB⟩; have BB := Lib.hid (bt BA.out bB); clear bB; obtain ⟨y0, y1, y2, y3⟩ := KK.out wB BB.out)
          | (go_at_call 41; with_reducible refine Calls.mono (CV.out W3.drew BD.out) ?_; rintro e wA ⟨rfl, bA⟩; have BA := Lib.hid (bt BD.out bA); clear bA; obtain ⟨y0, y1, y2, y3⟩ := KK.out wA BA.out)
          | (go_at_call 78; with_reducible refine Calls.mono (CI.out W3.drew BD.out) ?_; rintro e wA ⟨rfl, bA⟩; have BA := Lib.hid (bt BD.out bA); clear bA; obtain ⟨y0, y1, y2, y3⟩ := KK.out wA BA.out)
          | (go_at_call 47; refine (CO1.out _).mono ?_; rintro e wC ⟨rfl, rfl⟩))
      all_goals (
        have N6 := BB
        have R6 := R2.out.all N6.out
        have z0 := R6.free 0; have z1 := R6.free 1; have z2 := R6.free 2; have z3 := R6.free 3; have z4 := R6.free 4; have z5 := R6.free 5
        have q0 := R6.at_ 0; have q1 := R6.at_ 1; have q2 := R6.at_ 2; have q3 := R6.at_ 3; have q4 := R6.at_ 4; have q5 := R6.at_ 5
        clear R6
        have P := Lib.hid (put6 (R2.out.all N6.out) (.int .i64 0) (.int .i64 0) (.int .i64 0) (.slice none 0 0) (.slice none 0 0) (.int .u64 0))
        have BP := Lib.hid (below6 (bt HB.out N6.out) (show w.heap.size ≤ w.heap.size + 1 by omega) (.int .i64 0) (.int .i64 0) (.int .i64 0) (.slice none 0 0) (.slice none 0 0) (.int .u64 0))
        go_wp2_with fail
        generalize (((((wB.setCell ⟨w.heap.size + 1, 0, none⟩ (.int .i64 0)).setCell ⟨w.heap.size + 1, 1, none⟩ (.int .i64 0)).setCell ⟨w.heap.size + 1, 2, none⟩ (.int .i64 0)).setCell ⟨w.heap.size + 1, 3, none⟩ (.slice none 0 0)).setCell ⟨w.heap.size + 1, 4, none⟩ (.slice none 0 0)).setCell ⟨w.heap.size + 1, 5, none⟩ (.int .u64 0) = W9 at *
        have d0' := P.out.at_ 0; have d1' := P.out.at_ 1; have d2' := P.out.at_ 2; have d3' := P.out.at_ 3; have d4' := P.out.at_ 4; have d5' := P.out.at_ 5
        exact bodyPost_ret (v := .tuple #[.agg #[(.int .i64 0), (.int .i64 0), (.int .i64 0), (.slice none 0 0), (.slice none 0 0), (.int .u64 0)], .int .i64 1]) (by simp [results, Try.results61, go_sem, d0', d1', d2', d3', d4', d5']) rfl ⟨Or.inl ⟨HZ.out, rfl⟩, BP.out⟩)
    · go_enter Try.func61, Try.ntmps61
      go_wp2_with fail
      go_region_held3 (fun w' => w'.cell? ⟨w.heap.size, 0, none⟩ = some (.int .i64 r) ∧ w'.cell? ⟨w.heap.size, 1, none⟩ = some (.int .i64 c) ∧ w'.cell? ⟨w.heap.size, 2, none⟩ = some (.int .i64 s) ∧ w'.cell? ⟨w.heap.size, 3, none⟩ = some (.slice (some ⟨g0, 0, none⟩) zs.length cap)) (go_keep)
        (first
          | (go_at_call 41; with_reducible refine Calls.mono (CV.out wA BA.out) ?_; rintro e wB ⟨rfl, bB⟩; have BB := Lib.hid (bt BA.out bB); clear bB; obtain ⟨y0, y1, y2, y3⟩ := KK.out wB BB.out)
          | (go_at_call 78; with_reducible refine Calls.mono (CI.out wA BA.out) ?_; rintro e wB ⟨rfl, bB⟩; have BB := Lib.hid (bt BA.out bB); clear bB; obtain ⟨y0, y1, y2, y3⟩ := KK.out wB BB.out)
          | (go_at_call 41; with_reducible refine Calls.mono (CV.out W3.drew BD.out) ?_; rintro e wA ⟨rfl, bA⟩; have BA := Lib.hid (bt BD.out bA); clear bA; obtain ⟨y0, y1, y2, y3⟩ := KK.out wA BA.out)
          | (go_at_call 78; with_reducible refine Calls.mono (CI.out W3.drew BD.out) ?_; rintro e wA ⟨rfl, bA⟩; have BA := Lib.hid (bt BD.out bA); clear bA; obtain ⟨y0, y1, y2, y3⟩ := KK.out wA BA.out)
          | (go_at_call 47; refine (CO1.out _).mono ?_; rintro e wC ⟨rfl, rfl⟩))
      all_goals (
        have N6 := BB
        have R6 := R2.out.all N6.out
        have z0 := R6.free 0; have z1 := R6.free 1; have z2 := R6.free 2; have z3 := R6.free 3; have z4 := R6.free 4; have z5 := R6.free 5
        have q0 := R6.at_ 0; have q1 := R6.at_ 1; have q2 := R6.at_ 2; have q3 := R6.at_ 3; have q4 := R6.at_ 4; have q5 := R6.at_ 5
        clear R6
        have P := Lib.hid (put6 (R2.out.all N6.out) (.int .i64 0) (.int .i64 0) (.int .i64 0) (.slice none 0 0) (.slice none 0 0) (.int .u64 0))
        have BP := Lib.hid (below6 (bt HB.out N6.out) (show w.heap.size ≤ w.heap.size + 1 by omega) (.int .i64 0) (.int .i64 0) (.int .i64 0) (.slice none 0 0) (.slice none 0 0) (.int .u64 0))
        go_wp2_with fail
        generalize (((((wB.setCell ⟨w.heap.size + 1, 0, none⟩ (.int .i64 0)).setCell ⟨w.heap.size + 1, 1, none⟩ (.int .i64 0)).setCell ⟨w.heap.size + 1, 2, none⟩ (.int .i64 0)).setCell ⟨w.heap.size + 1, 3, none⟩ (.slice none 0 0)).setCell ⟨w.heap.size + 1, 4, none⟩ (.slice none 0 0)).setCell ⟨w.heap.size + 1, 5, none⟩ (.int .u64 0) = W9 at *
        have d0' := P.out.at_ 0; have d1' := P.out.at_ 1; have d2' := P.out.at_ 2; have d3' := P.out.at_ 3; have d4' := P.out.at_ 4; have d5' := P.out.at_ 5
        exact bodyPost_ret (v := .tuple #[.agg #[(.int .i64 0), (.int .i64 0), (.int .i64 0), (.slice none 0 0), (.slice none 0 0), (.int .u64 0)], .int .i64 2]) (by simp [results, Try.results61, go_sem, d0', d1', d2', d3', d4', d5']) rfl ⟨Or.inl ⟨HZ.out, rfl⟩, BP.out⟩)
    · go_enter Try.func61, Try.ntmps61
      go_wp2_with fail
      go_region_held3 (fun w' => w'.cell? ⟨w.heap.size, 0, none⟩ = some (.int .i64 r) ∧ w'.cell? ⟨w.heap.size, 1, none⟩ = some (.int .i64 c) ∧ w'.cell? ⟨w.heap.size, 2, none⟩ = some (.int .i64 s) ∧ w'.cell? ⟨w.heap.size, 3, none⟩ = some (.slice (some ⟨g0, 0, none⟩) zs.length cap)) (go_keep)
        (first
          | (go_at_call 41; with_reducible refine Calls.mono (CV.out wA BA.out) ?_; rintro e wB ⟨rfl, bB⟩; have BB := Lib.hid (bt BA.out bB); clear bB; obtain ⟨y0, y1, y2, y3⟩ := KK.out wB BB.out)
          | (go_at_call 78; with_reducible refine Calls.mono (CI.out wA BA.out) ?_; rintro e wB ⟨rfl, bB⟩; have BB := Lib.hid (bt BA.out bB); clear bB; obtain ⟨y0, y1, y2, y3⟩ := KK.out wB BB.out)
          | (go_at_call 41; with_reducible refine Calls.mono (CV.out W3.drew BD.out) ?_; rintro e wA ⟨rfl, bA⟩; have BA := Lib.hid (bt BD.out bA); clear bA; obtain ⟨y0, y1, y2, y3⟩ := KK.out wA BA.out)
          | (go_at_call 78; with_reducible refine Calls.mono (CI.out W3.drew BD.out) ?_; rintro e wA ⟨rfl, bA⟩; have BA := Lib.hid (bt BD.out bA); clear bA; obtain ⟨y0, y1, y2, y3⟩ := KK.out wA BA.out)
          | (go_at_call 47; refine (CO1.out _).mono ?_; rintro e wC ⟨rfl, rfl⟩))
      all_goals (
        have N6 := BB
        have R6 := R2.out.all N6.out
        have z0 := R6.free 0; have z1 := R6.free 1; have z2 := R6.free 2; have z3 := R6.free 3; have z4 := R6.free 4; have z5 := R6.free 5
        have q0 := R6.at_ 0; have q1 := R6.at_ 1; have q2 := R6.at_ 2; have q3 := R6.at_ 3; have q4 := R6.at_ 4; have q5 := R6.at_ 5
        clear R6
        have P := Lib.hid (put6 (R2.out.all N6.out) (.int .i64 0) (.int .i64 0) (.int .i64 0) (.slice none 0 0) (.slice none 0 0) (.int .u64 0))
        have BP := Lib.hid (below6 (bt HB.out N6.out) (show w.heap.size ≤ w.heap.size + 1 by omega) (.int .i64 0) (.int .i64 0) (.int .i64 0) (.slice none 0 0) (.slice none 0 0) (.int .u64 0))
        go_wp2_with fail
        generalize (((((wB.setCell ⟨w.heap.size + 1, 0, none⟩ (.int .i64 0)).setCell ⟨w.heap.size + 1, 1, none⟩ (.int .i64 0)).setCell ⟨w.heap.size + 1, 2, none⟩ (.int .i64 0)).setCell ⟨w.heap.size + 1, 3, none⟩ (.slice none 0 0)).setCell ⟨w.heap.size + 1, 4, none⟩ (.slice none 0 0)).setCell ⟨w.heap.size + 1, 5, none⟩ (.int .u64 0) = W9 at *
        have d0' := P.out.at_ 0; have d1' := P.out.at_ 1; have d2' := P.out.at_ 2; have d3' := P.out.at_ 3; have d4' := P.out.at_ 4; have d5' := P.out.at_ 5
        exact bodyPost_ret (v := .tuple #[.agg #[(.int .i64 0), (.int .i64 0), (.int .i64 0), (.slice none 0 0), (.slice none 0 0), (.int .u64 0)], .int .i64 7]) (by simp [results, Try.results61, go_sem, d0', d1', d2', d3', d4', d5']) rfl ⟨Or.inl ⟨HZ.out, rfl⟩, BP.out⟩)
end Go.Proofs.Ytaldmdammipfjaa

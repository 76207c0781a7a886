/-
  Lists of masses by the program, what a question about masses is about, and TotalMass (chapter 13). No condition of its own. (Written by wip/gen/gentm.py.)
-/
import Derived.Test.YthcmpalbhaefbaaTmA
import Derived.Test.YthcmpalbhaefbaaIntG
import Derived.Test.YthcmpalbhaefbaaGdV
import Derived.Test.YthcmpalbhaefbaaCcA
import Derived.Deep.QuietTactic
import Derived.BigQuiet
namespace Go.Proofs.Ythcmpalbhaefbaa
open Go.RowKit Go.Shelf Go.Deep
set_option linter.unusedVariables false
set_option maxRecDepth 100000
theorem put7 {w : World} {q : Nat} {t : TypeId} {z0 z1 z2 z3 z4 z5 z6 : Value} (h : Whole w q t #[z0, z1, z2, z3, z4, z5, z6]) (u0 u1 u2 u3 u4 u5 u6 : Value) :
    Whole (((((((w.setCell ⟨q, 0, none⟩ u0).setCell ⟨q, 1, none⟩ u1).setCell ⟨q, 2, none⟩ u2).setCell ⟨q, 3, none⟩ u3).setCell ⟨q, 4, none⟩ u4).setCell ⟨q, 5, none⟩ u5).setCell ⟨q, 6, none⟩ u6) q t #[u0, u1, u2, u3, u4, u5, u6] := by
  have := ((((((Whole.put h 0 u0).put 1 u1).put 2 u2).put 3 u3).put 4 u4).put 5 u5).put 6 u6
  simpa using this
theorem below7 {w0 w : World} {q : Nat} (h : Below w0.heap.size w0 w) (hq : w0.heap.size ≤ q) (u0 u1 u2 u3 u4 u5 u6 : Value) :
    Below w0.heap.size w0 (((((((w.setCell ⟨q, 0, none⟩ u0).setCell ⟨q, 1, none⟩ u1).setCell ⟨q, 2, none⟩ u2).setCell ⟨q, 3, none⟩ u3).setCell ⟨q, 4, none⟩ u4).setCell ⟨q, 5, none⟩ u5).setCell ⟨q, 6, none⟩ u6) :=
  ((((((h.setCell (p := ⟨q, 0, none⟩) hq _).setCell (p := ⟨q, 1, none⟩) hq _).setCell (p := ⟨q, 2, none⟩) hq _).setCell (p := ⟨q, 3, none⟩) hq _).setCell (p := ⟨q, 4, none⟩) hq _).setCell (p := ⟨q, 5, none⟩) hq _).setCell (p := ⟨q, 6, none⟩) hq _
theorem far7 {w : World} {q p i : Nat} (u0 u1 u2 u3 u4 u5 u6 : Value) (hn : p ≠ q) : (((((((w.setCell ⟨q, 0, none⟩ u0).setCell ⟨q, 1, none⟩ u1).setCell ⟨q, 2, none⟩ u2).setCell ⟨q, 3, none⟩ u3).setCell ⟨q, 4, none⟩ u4).setCell ⟨q, 5, none⟩ u5).setCell ⟨q, 6, none⟩ u6).cell? ⟨p, i, none⟩ = w.cell? ⟨p, i, none⟩ := by
  rw [World.cell?_setCell_other, World.cell?_setCell_other, World.cell?_setCell_other, World.cell?_setCell_other, World.cell?_setCell_other, World.cell?_setCell_other, World.cell?_setCell_other] <;> first | (simp; done) | simpa using hn
theorem RowsAt.put7 {w : World} {g hb ho C R q : Nat} (h : RowsAt w g hb ho C R) (hn : g ≠ q) (u0 u1 u2 u3 u4 u5 u6 : Value) : RowsAt (((((((w.setCell ⟨q, 0, none⟩ u0).setCell ⟨q, 1, none⟩ u1).setCell ⟨q, 2, none⟩ u2).setCell ⟨q, 3, none⟩ u3).setCell ⟨q, 4, none⟩ u4).setCell ⟨q, 5, none⟩ u5).setCell ⟨q, 6, none⟩ u6) g hb ho C R :=
  ⟨by simpa using h.1, fun k hk => (far7 _ _ _ _ _ _ _ hn).trans (h.2 k hk)⟩
theorem good_len7 {R C : Nat} {s : Int} {zs : List Int} (G : Gw.Good R C s zs) : zs.length = R * C := by have := G.n; exact_mod_cast this
theorem own_cap7 {B g n cap : Nat} {w : World} {zs : List Int} (h : Own B w (.slice (some ⟨g, 0, none⟩) n cap) zs) : n ≤ cap := by
  rcases h.2 with ⟨hv, _⟩ | ⟨g', cap', cur, hv, _, _, hc, _⟩
  · cases hv
  · simp only [Value.slice.injEq] at hv; omega
namespace Ms
theorem okM_t {ms : List Int} {n : Nat} (h : ms.length = n) (hn : n ≤ 64) : okM ms n = okI ms 1000000 := by unfold okM okI; rw [decide_eq_true h, decide_eq_true (by omega)]
theorem okM_f {ms : List Int} {n : Nat} (h : ¬ ms.length = n) : okM ms n = false := by unfold okM; rw [decide_eq_false h]; rfl
/-- the code of a question about masses and a friction -/
def rtC (r c s : Int) (zs ms : List Int) (fr : Int) : Int := odC (Gw.ok r c s zs) (Ar.inB 1 fr 5000) (okM ms zs.length)
theorem od_two (b o : Bool) : odC true b o = 0 ∨ odC true b o = 2 ∨ odC true b o = 7 := by cases b <;> cases o <;> decide
theorem od_00 {b o : Bool} (h : odC true b o = 0) : b = true ∧ o = true := by cases b <;> cases o <;> first | exact ⟨rfl, rfl⟩ | (revert h; decide)
end Ms
theorem itselfM_any (x : Int) (w : World) : Calls Try.prog 17 #[.int .i64 x] w fun e w' => e = .returned (.int .i64 x) ∧ w = w' := by
  go_enter Try.func17, Try.ntmps17
  go_wp2
  go_ret
  exact ⟨rfl, rfl⟩
set_option maxHeartbeats 1600000 in
theorem sumM_any (w : World) (v : Value) (zs : List Int) (hl : zs.length ≤ 64) (hv : Sl w v zs) (hms : ∀ k (hk : k < zs.length), 0 ≤ zs[k] ∧ zs[k] ≤ 1000000000) :
    Calls Try.prog 16 #[v, .func (.func 17) #[] #[]] w fun e w' => e = .returned (.int .i64 zs.sum) ∧ w = w' := by
  have eg := enters_of Try.func17 (by kernel_rfl) rfl
  obtain ⟨a, cap, rfl⟩ := hv.form
  have HV := Lib.hid hv
  have HM := Lib.hid hms
  clear hv hms
  go_enter Try.func16, Try.ntmps16
  go_wp2
  go_loop [5, 10] (fun s i => ∃ (k : Nat) (z : Int), k ≤ zs.length ∧ i = .int .i64 k ∧ s = .int .i64 z ∧ 0 ≤ z ∧ z ≤ 1000000000 * k ∧ Hid (z = (zs.take k).sum)) (fun _ i => zs.length - (intOf i).toNat)
  case atStart => exact ⟨0, 0, Nat.zero_le _, rfl, rfl, by omega, by omega, Lib.hid rfl⟩
  case round =>
    obtain ⟨k, z, hk, rfl, rfl, z1, z2, hz⟩ := hrel
    by_cases hlt : k < zs.length
    · have hltz : (k : Int) < (zs.length : Int) := by omega
      obtain ⟨b', off, cap1, hn, hbl, hcc⟩ := HV.out.atI hlt
      simp only [Value.slice.injEq] at hn
      obtain ⟨rfl, -, rfl⟩ := hn
      have k1 := hcc k hlt
      obtain ⟨m1, m2⟩ := HM.out k hlt
      have hn := Lib.hid (Ms.sum_take hlt)
      have C := fun W => Lib.hid (itselfM_any zs[k] W)
      clear hcc
      generalize zs[k] = y at *
      go_wp2_with fail
      refine (C _).out.mono ?_
      rintro e w1 ⟨rfl, rfl⟩
      go_wp2_with fail
      exact ⟨⟨k + 1, z + y, by omega, by go_num, rfl, by omega, by omega, Lib.hid (by rw [hn.out, hz.out])⟩, by simp only [intOf]; omega⟩
    · have hltz : ¬ (k : Int) < (zs.length : Int) := by omega
      have hkz : k = zs.length := by omega
      have hn : Hid (z = zs.sum) := Lib.hid (by rw [hz.out, hkz, List.take_length])
      clear hkz
      go_wp2
      go_ret
      exact ⟨ret_int hn.out, rfl⟩
set_option maxHeartbeats 800000 in
theorem isShortM1_any (x g : Int) (b : Nat) (w : World) (hc : w.cell? ⟨b, 0, none⟩ = some (.int .i64 g)) :
    Calls Try.prog 35 #[.int .i64 x, .pointer (some ⟨b, 0, none⟩)] w fun e w' => e = .returned (.bool (!Ar.inB 0 x g)) ∧ w = w' := by
  go_enter Try.func35, Try.ntmps35
  go_wp2_with (go_at_call 21; refine (within_any _ _ _ _).mono ?_; rintro e w' ⟨rfl, rfl⟩)
  go_ret
  exact ⟨rfl, rfl⟩
theorem boxM_kept {w W : World} {n : Int} {t : TypeId} (h : Below (w.alloc (.cells #[.int .i64 n] t)).heap.size (w.alloc (.cells #[.int .i64 n] t)) W) : W.cell? ⟨w.heap.size, 0, none⟩ = some (.int .i64 n) := ((Whole.new w t #[.int .i64 n]).all h).at_ 0
set_option maxHeartbeats 1600000 in
theorem isShortM_any (w : World) (v : Value) (zs : List Int) (g : Int) (hv : Sl w v zs) (hl : zs.length ≤ 1048576) :
    Calls Try.prog 29 #[v, .int .i64 g] w fun e w' => e = .returned (.bool (Ms.okI zs g)) ∧ Below w.heap.size w w' := by
  have B := Lib.hid ((Below.refl w.heap.size w).alloc (Nat.le_refl _) (.cells #[.int .i64 g] 2))
  have C := Lib.hid (containsFuncI_any 35 #[.pointer (some ⟨w.heap.size, 0, none⟩)] (enters_of Try.func35 (by kernel_rfl) rfl) (fun x => !Ar.inB 0 x g) (w.alloc (.cells #[.int .i64 g] 2)) v zs hl (hv.below B.out)
    (fun x W hW => (isShortM1_any x g w.heap.size W (boxM_kept hW)).mono fun _ _ ⟨h, h'⟩ => ⟨h, h' ▸ hW⟩))
  obtain ⟨a, cap, rfl⟩ := hv.form
  by_cases h64 : zs.length ≤ 64
  · have h : ¬ 64 < zs.length := by omega
    have hn : Hid ((!zs.any fun x => !Ar.inB 0 x g) = Ms.okI zs g) := Lib.hid (by rw [Ms.not_anyI, Ms.okI_short h64, Bool.not_not])
    clear hv
    go_enter Try.func29, Try.ntmps29
    go_wp2_with fail
    refine C.out.mono ?_
    rintro e w1 ⟨rfl, b1⟩
    generalize (zs.any fun x => !Ar.inB 0 x g) = t at *
    have HB := Lib.hid (bt B.out b1)
    clear b1
    go_wp2_with fail
    go_ret
    exact ⟨ret_bool hn.out, HB.out⟩
  · have h : 64 < zs.length := by omega
    have hn := Lib.hid (Ms.okI_long (g := g) h64)
    clear hv C
    go_enter Try.func29, Try.ntmps29
    go_wp2_with fail
    go_ret
    exact ⟨ret_bool hn.out.symm, B.out⟩
set_option maxHeartbeats 1600000 in
theorem areMasses_any (w : World) (v : Value) (ms : List Int) (n : Nat) (hv : Sl w v ms) (hl : ms.length ≤ 1048576) (hn : n ≤ 64) :
    Calls Try.prog 22 #[v, .int .i64 (n : Int)] w fun e w' => e = .returned (.bool (Ms.okM ms n)) ∧ Below w.heap.size w w' := by
  have C := Lib.hid (isShortM_any w v ms 1000000 hv hl)
  obtain ⟨a, cap, rfl⟩ := hv.form
  clear hv
  by_cases h : ms.length = n
  · have hb : ((ms.length : Int) == (n : Int)) = true := beq_iff_eq.2 (by omega)
    have E : Hid (Ms.okM ms n = Ms.okI ms 1000000) := Lib.hid (Ms.okM_t h hn)
    clear h
    go_enter Try.func22, Try.ntmps22
    go_wp2_with fail
    refine C.out.mono ?_
    rintro e w1 ⟨rfl, b1⟩
    have B1 := Lib.hid b1
    clear b1
    go_wp2_with fail
    go_ret
    exact ⟨ret_bool E.out.symm, B1.out⟩
  · have hb : ((ms.length : Int) == (n : Int)) = false := beq_eq_false_iff_ne.2 (by omega)
    have E : Hid (Ms.okM ms n = false) := Lib.hid (Ms.okM_f h)
    clear h C
    go_enter Try.func22, Try.ntmps22
    go_wp2_with fail
    go_ret
    exact ⟨ret_bool E.out.symm, Below.refl _ _⟩
set_option maxHeartbeats 6400000 in
theorem routingOf_any (w : World) (r c s fr : Int) (g0 cap Bo : Nat) (zs : List Int) (u : Value) (ms : List Int) (ho : Own Bo w (.slice (some ⟨g0, 0, none⟩) zs.length cap) zs) (hl : zs.length ≤ 1048576) (hu : Sl w u ms) (hml : ms.length ≤ 1048576) :
    Calls Try.prog 15 #[.agg #[.int .i64 r, .int .i64 c, .int .i64 s, .slice (some ⟨g0, 0, none⟩) zs.length cap], u, .int .i64 fr, .slice none 0 0] w fun e w' =>
      ((Ms.rtC r c s zs ms fr ≠ 0 ∧ e = .returned (.tuple #[.agg #[.int .i64 0, .int .i64 0, .int .i64 0, .slice none 0 0, .slice none 0 0, .slice none 0 0, .int .i64 0], .int .i64 (Ms.rtC r c s zs ms fr)])) ∨
       (Ms.rtC r c s zs ms fr = 0 ∧ ∃ R C g cap' : Nat, r = (R : Int) ∧ c = (C : Int) ∧ e = .returned (.tuple #[.agg #[.int .i64 R, .int .i64 C, .int .i64 s, .slice (some ⟨g0, 0, none⟩) zs.length cap, .slice (some ⟨g, 0, none⟩) R cap', u, .int .i64 fr], .int .i64 0]) ∧ RowsAt w' g g0 0 C R)) ∧ Below w.heap.size w w' := by
  have HB0 := Lib.hid (boxG_below w r c s (.slice (some ⟨g0, 0, none⟩) zs.length cap) 28)
  have HB : Hid (Below w.heap.size w ((boxG w r c s (.slice (some ⟨g0, 0, none⟩) zs.length cap) 28).alloc (.cells #[.int .i64 0, .int .i64 0, .int .i64 0, .slice none 0 0, .slice none 0 0, .slice none 0 0, .int .i64 0] 43))) := Lib.hid (HB0.out.alloc HB0.out.size _)
  have R2 := Lib.hid (Whole.new (boxG w r c s (.slice (some ⟨g0, 0, none⟩) zs.length cap) 28) 43 #[.int .i64 0, .int .i64 0, .int .i64 0, .slice none 0 0, .slice none 0 0, .slice none 0 0, .int .i64 0])
  have K2 : Hid (GC ((boxG w r c s (.slice (some ⟨g0, 0, none⟩) zs.length cap) 28).alloc (.cells #[.int .i64 0, .int .i64 0, .int .i64 0, .slice none 0 0, .slice none 0 0, .slice none 0 0, .int .i64 0] 43)) w.heap.size r c s (.slice (some ⟨g0, 0, none⟩) zs.length cap)) := Lib.hid (boxG_kept ((Below.refl _ _).alloc (Nat.le_refl _) _))
  rw [boxG_size] at R2
  have HO := Lib.hid (ho.belowAll HB.out)
  have HU := Lib.hid (hu.below HB.out)
  unfold boxG at HB R2 K2 HO HU
  clear ho hu HB0
  obtain ⟨W3, hW3⟩ : ∃ W3, (w.alloc (.cells #[.int .i64 r, .int .i64 c, .int .i64 s, .slice (some ⟨g0, 0, none⟩) zs.length cap] 28)).alloc (.cells #[.int .i64 0, .int .i64 0, .int .i64 0, .slice none 0 0, .slice none 0 0, .slice none 0 0, .int .i64 0] 43) = W3 := ⟨_, rfl⟩
  rw [hW3] at HB R2 K2 HO HU
  have CC := Lib.hid (cellsCodeP_any W3 r c s (.slice (some ⟨g0, 0, none⟩) zs.length cap) (.slice none 0 0) zs [] HO.out.sl (Or.inl ⟨rfl, _, _, rfl⟩) hl (by simp))
  have CM := Lib.hid (fun W (h : Below W3.heap.size W3 W) (hn : zs.length ≤ 64) => areMasses_any W u ms zs.length (HU.out.below h) hml hn)
  have CW := Lib.hid (fun W => within_any fr 1 5000 W)
  have KK := Lib.hid (fun W (h : Below W3.heap.size W3 W) => (K2.out.all h).four)
  obtain ⟨x0, x1, x2, x3⟩ := K2.out.four
  obtain ⟨ua, ucap, rfl⟩ := HU.out.form
  rw [show (!([] : List Int).any fun x => !Ar.inB 0 x (zs.length - 1)) = true from rfl] at CC
  unfold Ms.rtC
  cases hq : Gw.ok r c s zs with
  | false =>
    rw [hq, Cd.cd_f] at CC
    have E : Hid (odC false (Ar.inB 1 fr 5000) (Ms.okM ms zs.length) = 1) := Lib.hid (by cases Ar.inB 1 fr 5000 <;> cases Ms.okM ms zs.length <;> rfl)
    rw [E.out]
    clear hq E CM CW
    go_enter Try.func15, Try.ntmps15
    go_wp2_with fail
    refine CC.out.mono ?_
    rintro e w1 ⟨rfl, b1⟩
    have N6 := Lib.hid b1
    clear b1 x0 x1 x2 x3
    have R6 := R2.out.all N6.out
    have z0 := R6.free 0; have z1 := R6.free 1; have z2 := R6.free 2; have z3 := R6.free 3; have z4 := R6.free 4; have z5 := R6.free 5; have z6 := R6.free 6
    have q0 := R6.at_ 0; have q1 := R6.at_ 1; have q2 := R6.at_ 2; have q3 := R6.at_ 3; have q4 := R6.at_ 4; have q5 := R6.at_ 5; have q6 := R6.at_ 6
    clear R6
    have P := Lib.hid (put7 (R2.out.all N6.out) (.int .i64 0) (.int .i64 0) (.int .i64 0) (.slice none 0 0) (.slice none 0 0) (.slice none 0 0) (.int .i64 0))
    have BP := Lib.hid (below7 (bt HB.out N6.out) (show w.heap.size ≤ w.heap.size + 1 by omega) (.int .i64 0) (.int .i64 0) (.int .i64 0) (.slice none 0 0) (.slice none 0 0) (.slice none 0 0) (.int .i64 0))
    go_wp2_with fail
    generalize ((((((w1.setCell ⟨w.heap.size + 1, 0, none⟩ (.int .i64 0)).setCell ⟨w.heap.size + 1, 1, none⟩ (.int .i64 0)).setCell ⟨w.heap.size + 1, 2, none⟩ (.int .i64 0)).setCell ⟨w.heap.size + 1, 3, none⟩ (.slice none 0 0)).setCell ⟨w.heap.size + 1, 4, none⟩ (.slice none 0 0)).setCell ⟨w.heap.size + 1, 5, none⟩ (.slice none 0 0)).setCell ⟨w.heap.size + 1, 6, none⟩ (.int .i64 0) = W9 at *
    have d0' := P.out.at_ 0; have d1' := P.out.at_ 1; have d2' := P.out.at_ 2; have d3' := P.out.at_ 3; have d4' := P.out.at_ 4; have d5' := P.out.at_ 5; have d6' := P.out.at_ 6
    exact bodyPost_ret (v := .tuple #[.agg #[.int .i64 0, .int .i64 0, .int .i64 0, .slice none 0 0, .slice none 0 0, .slice none 0 0, .int .i64 0], .int .i64 1]) (by simp [results, Try.results15, go_sem, d0', d1', d2', d3', d4', d5', d6']) rfl ⟨Or.inl ⟨by decide, rfl⟩, BP.out⟩
  | true =>
    have G := Lib.hid ((Gw.ok_iff _ _ _ _).1 hq)
    have hlen := G.out.len
    have CM2 := Lib.hid (fun W h => CM.out W h hlen)
    rw [hq, Cd.cd_t] at CC
    clear hq CM
    by_cases hz : odC true (Ar.inB 1 fr 5000) (Ms.okM ms zs.length) = 0
    · obtain ⟨h2, h3⟩ := Ms.od_00 hz
      rw [h2] at CW
      rw [h3] at CM2
      have CO0 := Lib.hid (fun W => orderedCode_any true true true W)
      rw [show odC true true true = 0 from rfl] at CO0
      obtain ⟨R, rfl⟩ : ∃ R : Nat, r = (R : Int) := ⟨r.toNat, (Int.toNat_of_nonneg (by have := G.out.r1; omega)).symm⟩
      obtain ⟨C', rfl⟩ : ∃ C : Nat, c = (C : Int) := ⟨c.toNat, (Int.toNat_of_nonneg (by have := G.out.c1; omega)).symm⟩
      have hL : zs.length = R * C' := good_len7 G.out
      have g1 := G.out.r1; have g2 := G.out.r2; have g3 := G.out.c1; have g4 := G.out.c2
      have CT := Lib.hid (fun W (h : Below W3.heap.size W3 W) => terrainOf_any W R C' g0 0 zs.length cap s hL (by omega) (own_cap7 HO.out) (by omega) (by omega) (by omega) (by omega))
      have HZ := Lib.hid hz
      clear hz h2 h3 hL g1 g2 g3 g4
      go_enter Try.func15, Try.ntmps15
      go_wp2_with fail
      refine CC.out.mono ?_
      rintro e w1 ⟨rfl, b1⟩
      have N1 := Lib.hid b1
      have BD1 : Hid (Below W3.heap.size W3 w1.drew) := Lib.hid (bt b1 (below_drewW w1 1))
      clear b1 x0 x1 x2 x3
      obtain ⟨x0, x1, x2, x3⟩ := KK.out w1 N1.out
      go_wp2_with fail
      go_region_held3 (fun w' => w'.cell? ⟨w.heap.size, 3, none⟩ = some (.slice (some ⟨g0, 0, none⟩) zs.length cap)) (go_keep)
        (first
          | (go_at_call 21; refine (CW.out _).mono ?_; rintro e wW ⟨rfl, rfl⟩)
          | (go_at_call 22; with_reducible refine Calls.mono (CM2.out w1.drew BD1.out) ?_; rintro e wB ⟨rfl, bB⟩; have BB := Lib.hid (bt BD1.out bB); clear bB; obtain ⟨y0, y1, y2, y3⟩ := KK.out wB BB.out)
          | (go_at_call 20; refine (CO0.out _).mono ?_; rintro e wC ⟨rfl, rfl⟩))
      all_goals (
        go_wp2_with fail
        refine (CT.out _ BB.out).mono ?_
        rintro e w4 ⟨g, cap', rfl, hr, hg, b4⟩
        have N6 := Lib.hid (bt BB.out b4)
        have hgg : Hid (w.heap.size + 1 < g) := Lib.hid (by have h1 := (R2.out.all BB.out).lt; omega)
        have HR := Lib.hid hr
        clear b4 hr hg
        have R6 := R2.out.all N6.out
        have z0 := R6.free 0; have z1 := R6.free 1; have z2 := R6.free 2; have z3 := R6.free 3; have z4 := R6.free 4; have z5 := R6.free 5; have z6 := R6.free 6
        have q0 := R6.at_ 0; have q1 := R6.at_ 1; have q2 := R6.at_ 2; have q3 := R6.at_ 3; have q4 := R6.at_ 4; have q5 := R6.at_ 5; have q6 := R6.at_ 6
        clear R6
        have P := Lib.hid (put7 (R2.out.all N6.out) (.int .i64 R) (.int .i64 C') (.int .i64 s) (.slice (some ⟨g0, 0, none⟩) zs.length cap) (.slice (some ⟨g, 0, none⟩) R cap') (.slice ua ms.length ucap) (.int .i64 fr))
        have BP := Lib.hid (below7 (bt HB.out N6.out) (show w.heap.size ≤ w.heap.size + 1 by omega) (.int .i64 R) (.int .i64 C') (.int .i64 s) (.slice (some ⟨g0, 0, none⟩) zs.length cap) (.slice (some ⟨g, 0, none⟩) R cap') (.slice ua ms.length ucap) (.int .i64 fr))
        have HRP := Lib.hid (HR.out.put7 (q := w.heap.size + 1) (by have := hgg.out; omega) (.int .i64 R) (.int .i64 C') (.int .i64 s) (.slice (some ⟨g0, 0, none⟩) zs.length cap) (.slice (some ⟨g, 0, none⟩) R cap') (.slice ua ms.length ucap) (.int .i64 fr))
        go_wp2_with fail
        generalize ((((((w4.setCell ⟨w.heap.size + 1, 0, none⟩ (.int .i64 R)).setCell ⟨w.heap.size + 1, 1, none⟩ (.int .i64 C')).setCell ⟨w.heap.size + 1, 2, none⟩ (.int .i64 s)).setCell ⟨w.heap.size + 1, 3, none⟩ (.slice (some ⟨g0, 0, none⟩) zs.length cap)).setCell ⟨w.heap.size + 1, 4, none⟩ (.slice (some ⟨g, 0, none⟩) R cap')).setCell ⟨w.heap.size + 1, 5, none⟩ (.slice ua ms.length ucap)).setCell ⟨w.heap.size + 1, 6, none⟩ (.int .i64 fr) = W9 at *
        have d0' := P.out.at_ 0; have d1' := P.out.at_ 1; have d2' := P.out.at_ 2; have d3' := P.out.at_ 3; have d4' := P.out.at_ 4; have d5' := P.out.at_ 5; have d6' := P.out.at_ 6
        exact bodyPost_ret (v := .tuple #[.agg #[.int .i64 R, .int .i64 C', .int .i64 s, .slice (some ⟨g0, 0, none⟩) zs.length cap, .slice (some ⟨g, 0, none⟩) R cap', .slice ua ms.length ucap, .int .i64 fr], .int .i64 0]) (by simp [results, Try.results15, go_sem, d0', d1', d2', d3', d4', d5', d6']) rfl ⟨Or.inr ⟨HZ.out, R, C', g, cap', rfl, rfl, rfl, HRP.out⟩, BP.out⟩)
    · have CO1 := Lib.hid (fun W => orderedCode_any true (Ar.inB 1 fr 5000) (Ms.okM ms zs.length) W)
      have hv := Ms.od_two (Ar.inB 1 fr 5000) (Ms.okM ms zs.length)
      generalize odC true (Ar.inB 1 fr 5000) (Ms.okM ms zs.length) = code at *
      generalize Ar.inB 1 fr 5000 = ib at *
      generalize Ms.okM ms zs.length = om at *
      have hv2 : code = 2 ∨ code = 7 := by rcases hv with h | h | h <;> first | exact absurd h hz | exact Or.inl h | exact Or.inr h
      have HZ := Lib.hid hz
      clear hz hv
      rcases hv2 with rfl | rfl
      · go_enter Try.func15, Try.ntmps15
        go_wp2_with fail
        refine CC.out.mono ?_
        rintro e w1 ⟨rfl, b1⟩
        have N1 := Lib.hid b1
        have BD1 : Hid (Below W3.heap.size W3 w1.drew) := Lib.hid (bt b1 (below_drewW w1 1))
        clear b1 x0 x1 x2 x3
        obtain ⟨x0, x1, x2, x3⟩ := KK.out w1 N1.out
        go_wp2_with fail
        go_region_held3 (fun w' => w'.cell? ⟨w.heap.size, 3, none⟩ = some (.slice (some ⟨g0, 0, none⟩) zs.length cap)) (go_keep)
          (first
            | (go_at_call 21; refine (CW.out _).mono ?_; rintro e wW ⟨rfl, rfl⟩)
            | (go_at_call 22; with_reducible refine Calls.mono (CM2.out w1.drew BD1.out) ?_; rintro e wB ⟨rfl, bB⟩; have BB := Lib.hid (bt BD1.out bB); clear bB; obtain ⟨y0, y1, y2, y3⟩ := KK.out wB BB.out)
            | (go_at_call 20; refine (CO1.out _).mono ?_; rintro e wC ⟨rfl, rfl⟩))
        all_goals (
          have N6 := BB
          have R6 := R2.out.all N6.out
          have z0 := R6.free 0; have z1 := R6.free 1; have z2 := R6.free 2; have z3 := R6.free 3; have z4 := R6.free 4; have z5 := R6.free 5; have z6 := R6.free 6
          have q0 := R6.at_ 0; have q1 := R6.at_ 1; have q2 := R6.at_ 2; have q3 := R6.at_ 3; have q4 := R6.at_ 4; have q5 := R6.at_ 5; have q6 := R6.at_ 6
          clear R6
          have P := Lib.hid (put7 (R2.out.all N6.out) (.int .i64 0) (.int .i64 0) (.int .i64 0) (.slice none 0 0) (.slice none 0 0) (.slice none 0 0) (.int .i64 0))
          have BP := Lib.hid (below7 (bt HB.out N6.out) (show w.heap.size ≤ w.heap.size + 1 by omega) (.int .i64 0) (.int .i64 0) (.int .i64 0) (.slice none 0 0) (.slice none 0 0) (.slice none 0 0) (.int .i64 0))
          go_wp2_with fail
          generalize ((((((wB.setCell ⟨w.heap.size + 1, 0, none⟩ (.int .i64 0)).setCell ⟨w.heap.size + 1, 1, none⟩ (.int .i64 0)).setCell ⟨w.heap.size + 1, 2, none⟩ (.int .i64 0)).setCell ⟨w.heap.size + 1, 3, none⟩ (.slice none 0 0)).setCell ⟨w.heap.size + 1, 4, none⟩ (.slice none 0 0)).setCell ⟨w.heap.size + 1, 5, none⟩ (.slice none 0 0)).setCell ⟨w.heap.size + 1, 6, none⟩ (.int .i64 0) = W9 at *
          have d0' := P.out.at_ 0; have d1' := P.out.at_ 1; have d2' := P.out.at_ 2; have d3' := P.out.at_ 3; have d4' := P.out.at_ 4; have d5' := P.out.at_ 5; have d6' := P.out.at_ 6
          exact bodyPost_ret (v := .tuple #[.agg #[.int .i64 0, .int .i64 0, .int .i64 0, .slice none 0 0, .slice none 0 0, .slice none 0 0, .int .i64 0], .int .i64 2]) (by simp [results, Try.results15, go_sem, d0', d1', d2', d3', d4', d5', d6']) rfl ⟨Or.inl ⟨HZ.out, rfl⟩, BP.out⟩)
      · go_enter Try.func15, Try.ntmps15
        go_wp2_with fail
        refine CC.out.mono ?_
        rintro e w1 ⟨rfl, b1⟩
        have N1 := Lib.hid b1
        have BD1 : Hid (Below W3.heap.size W3 w1.drew) := Lib.hid (bt b1 (below_drewW w1 1))
        clear b1 x0 x1 x2 x3
        obtain ⟨x0, x1, x2, x3⟩ := KK.out w1 N1.out
        go_wp2_with fail
        go_region_held3 (fun w' => w'.cell? ⟨w.heap.size, 3, none⟩ = some (.slice (some ⟨g0, 0, none⟩) zs.length cap)) (go_keep)
          (first
            | (go_at_call 21; refine (CW.out _).mono ?_; rintro e wW ⟨rfl, rfl⟩)
            | (go_at_call 22; with_reducible refine Calls.mono (CM2.out w1.drew BD1.out) ?_; rintro e wB ⟨rfl, bB⟩; have BB := Lib.hid (bt BD1.out bB); clear bB; obtain ⟨y0, y1, y2, y3⟩ := KK.out wB BB.out)
            | (go_at_call 20; refine (CO1.out _).mono ?_; rintro e wC ⟨rfl, rfl⟩))
        all_goals (
          have N6 := BB
          have R6 := R2.out.all N6.out
          have z0 := R6.free 0; have z1 := R6.free 1; have z2 := R6.free 2; have z3 := R6.free 3; have z4 := R6.free 4; have z5 := R6.free 5; have z6 := R6.free 6
          have q0 := R6.at_ 0; have q1 := R6.at_ 1; have q2 := R6.at_ 2; have q3 := R6.at_ 3; have q4 := R6.at_ 4; have q5 := R6.at_ 5; have q6 := R6.at_ 6
          clear R6
          have P := Lib.hid (put7 (R2.out.all N6.out) (.int .i64 0) (.int .i64 0) (.int .i64 0) (.slice none 0 0) (.slice none 0 0) (.slice none 0 0) (.int .i64 0))
          have BP := Lib.hid (below7 (bt HB.out N6.out) (show w.heap.size ≤ w.heap.size + 1 by omega) (.int .i64 0) (.int .i64 0) (.int .i64 0) (.slice none 0 0) (.slice none 0 0) (.slice none 0 0) (.int .i64 0))
          go_wp2_with fail
          generalize ((((((wB.setCell ⟨w.heap.size + 1, 0, none⟩ (.int .i64 0)).setCell ⟨w.heap.size + 1, 1, none⟩ (.int .i64 0)).setCell ⟨w.heap.size + 1, 2, none⟩ (.int .i64 0)).setCell ⟨w.heap.size + 1, 3, none⟩ (.slice none 0 0)).setCell ⟨w.heap.size + 1, 4, none⟩ (.slice none 0 0)).setCell ⟨w.heap.size + 1, 5, none⟩ (.slice none 0 0)).setCell ⟨w.heap.size + 1, 6, none⟩ (.int .i64 0) = W9 at *
          have d0' := P.out.at_ 0; have d1' := P.out.at_ 1; have d2' := P.out.at_ 2; have d3' := P.out.at_ 3; have d4' := P.out.at_ 4; have d5' := P.out.at_ 5; have d6' := P.out.at_ 6
          exact bodyPost_ret (v := .tuple #[.agg #[.int .i64 0, .int .i64 0, .int .i64 0, .slice none 0 0, .slice none 0 0, .slice none 0 0, .int .i64 0], .int .i64 7]) (by simp [results, Try.results15, go_sem, d0', d1', d2', d3', d4', d5', d6']) rfl ⟨Or.inl ⟨HZ.out, rfl⟩, BP.out⟩)
theorem tm_eq (r c s : Int) (zs ms : List Int) : Ms.rtC r c s zs ms 1 = Ms.tmC r c s zs ms := rfl
theorem tm_no {r c s : Int} {zs ms : List Int} (h : Ms.tmC r c s zs ms ≠ 0) : Ms.tmV r c s zs ms = 0 := by
  unfold Ms.tmC at h; unfold Ms.tmV
  cases h1 : Gw.ok r c s zs <;> cases h2 : Ms.okM ms zs.length <;> rw [h1, h2] at h <;> first | rfl | exact absurd rfl h
theorem tm_yes {r c s : Int} {zs ms : List Int} (h : Ms.tmC r c s zs ms = 0) : Ms.tmV r c s zs ms = ms.sum ∧ Gw.ok r c s zs = true ∧ Ms.okM ms zs.length = true := by
  unfold Ms.tmC at h; unfold Ms.tmV
  cases h1 : Gw.ok r c s zs <;> cases h2 : Ms.okM ms zs.length <;> rw [h1, h2] at h <;> first | exact ⟨rfl, rfl, rfl⟩ | exact absurd h (by decide)
set_option maxHeartbeats 3200000 in
theorem implTotalMass_any (w : World) (r c s : Int) (v : Value) (zs : List Int) (u : Value) (ms : List Int) (ho : IAt w v zs) (hl : zs.length ≤ 1048576) (hu : Sl w u ms) (hml : ms.length ≤ 1048576) :
    Calls Try.prog 8 #[.agg #[.int .i64 r, .int .i64 c, .int .i64 s, v], u] w fun e w' => e = .returned (.tuple #[.int .i64 (Ms.tmV r c s zs ms), .int .i64 (Ms.tmC r c s zs ms)]) ∧ Below w.heap.size w w' := by
  obtain ⟨Bo, g0, cap, rfl, hown⟩ := ho
  have HB := Lib.hid (boxG_below w r c s (.slice (some ⟨g0, 0, none⟩) zs.length cap) 28)
  have C := Lib.hid (routingOf_any (boxG w r c s (.slice (some ⟨g0, 0, none⟩) zs.length cap) 28) r c s 1 g0 cap Bo zs u ms (hown.belowAll HB.out) hl (hu.below HB.out) hml)
  have HU := Lib.hid hu
  obtain ⟨ua, ucap, rfl⟩ := hu.form
  rw [tm_eq] at C
  unfold boxG at C HB
  clear hown hu
  go_enter Try.func8, Try.ntmps8
  go_wp2_with fail
  refine C.out.mono ?_
  rintro e w1 ⟨⟨hz, rfl⟩ | ⟨hz, R, C', g, cap', rfl, rfl, rfl, hr⟩, b1⟩
  · have E := Lib.hid (tm_no hz)
    have B1 := Lib.hid (bt HB.out b1)
    have BA := Lib.hid (B1.out.alloc B1.out.size (.cells #[.int .i64 0, .int .i64 0, .int .i64 0, .slice none 0 0, .slice none 0 0, .slice none 0 0, .int .i64 0] 43))
    have CS := Lib.hid (fun W => sumM_any W (.slice none 0 0) [] (by decide) (Or.inl ⟨rfl, _, _, rfl⟩) (fun k hk => absurd hk (Nat.not_lt_zero _)))
    rw [show ([] : List Int).sum = 0 from rfl] at CS
    clear b1 hz C
    go_wp2_with fail
    refine (CS.out _).mono ?_
    rintro e w2 ⟨rfl, rfl⟩
    go_wp2_with fail
    exact bodyPost_ret (v := .tuple #[.int .i64 0, .int .i64 (Ms.tmC r c s zs ms)]) (by simp [results, Try.results8, go_sem]) rfl ⟨by rw [E.out], BA.out⟩
  · obtain ⟨e1, e2, e3⟩ := tm_yes hz
    obtain ⟨h1, h2⟩ := Ms.okM_of e3
    have hlen := ((Gw.ok_iff _ _ _ _).1 e2).len
    have E : Hid (Ms.tmV R C' s zs ms = ms.sum ∧ Ms.tmC R C' s zs ms = 0) := Lib.hid ⟨e1, hz⟩
    have B1 := Lib.hid (bt HB.out b1)
    have BA := Lib.hid (B1.out.alloc B1.out.size (.cells #[.int .i64 R, .int .i64 C', .int .i64 s, .slice (some ⟨g0, 0, none⟩) zs.length cap, .slice (some ⟨g, 0, none⟩) R cap', .slice ua ms.length ucap, .int .i64 1] 43))
    have CS := Lib.hid (fun W (h : Below w.heap.size w W) => sumM_any W (.slice ua ms.length ucap) ms (by omega) (HU.out.below h) (fun k hk => by have := h2 k hk; omega))
    clear b1 hz C hr e1 e2 e3 h1 h2 hlen
    generalize ms.sum = z at *
    go_wp2_with fail
    refine (CS.out _ BA.out).mono ?_
    rintro e w2 ⟨rfl, rfl⟩
    go_wp2_with fail
    exact bodyPost_ret (v := .tuple #[.int .i64 z, .int .i64 0]) (by simp [results, Try.results8, go_sem]) rfl ⟨by rw [E.out.1, E.out.2], BA.out⟩
end Go.Proofs.Ythcmpalbhaefbaa

/-
  Lists of masses by the program, what a question about masses is about, and TotalMass (chapter 13). No condition of its own. (Written by wip/gen/gentm.py.)
-/
import Derived.Test.YtaldmdammipfjaaTmA
import Derived.Test.YtaldmdammipfjaaIntG
import Derived.Test.YtaldmdammipfjaaGdV
import Derived.Test.YtaldmdammipfjaaCcA
import Derived.Deep.QuietTactic
import Derived.BigQuiet
namespace Go.Proofs.Ytaldmdammipfjaa
open Go.RowKit Go.Shelf Go.Deep
set_option linter.unusedVariables false
set_option maxRecDepth 100000
theorem put7 {w : World} {q : Nat} {t : TypeId} {z0 z1 z2 z3 z4 z5 z6 : Value} (h : Whole w q t #[z0, z1, z2, z3, z4, z5, z6]) (u0 u1 u2 u3 u4 u5 u6 : Value) :
    Whole (((((((w.setCell ⟨q, 0, none⟩ u0).setCell ⟨q, 1, none⟩ u1).setCell ⟨q, 2, none⟩ u2).setCell ⟨q, 3, none⟩ u3).setCell ⟨q, 4, none⟩ u4).setCell ⟨q, 5, none⟩ u5).setCell ⟨q, 6, none⟩ u6) q t #[u0, u1, u2, u3, u4, u5, u6] := by
  have := ((((((Whole.put h 0 u0).put 1 u1).put 2 u2).put 3 u3).put 4 u4).put 5 u5).put 6 u6
  simpa using this
theorem below7 {w0 w : World} {q : Nat} (h : Below w0.heap.size w0 w) (hq : w0.heap.size ≤ q) (u0 u1 u2 u3 u4 u5 u6 : Value) :
    Below w0.heap.size w0 (((((((w.setCell ⟨q, 0, none⟩ u0).setCell ⟨q, 1, none⟩ u1).setCell ⟨q, 2, none⟩ u2).setCell ⟨q, 3, none⟩ u3).setCell ⟨q, 4, none⟩ u4).setCell ⟨q, 5, none⟩ u5).setCell ⟨q, 6, none⟩ u6) :=
  ((((((h.setCell (p := ⟨q, 0, none⟩) hq _).setCell (p := ⟨q, 1, none⟩) hq _).setCell (p := ⟨q, 2, none⟩) hq _).setCell (p := ⟨q, 3, none⟩) hq _).setCell (p := ⟨q, 4, none⟩) hq _).setCell (p := ⟨q, 5, none⟩) hq _).setCell (p := ⟨q, 6, none⟩) hq _
theorem far7 {w : World} {q p i : Nat} (u0 u1 u2 u3 u4 u5 u6 : Value) (hn : p ≠ q) : (((((((w.setCell ⟨q, 0, none⟩ u0).setCell ⟨q, 1, none⟩ u1).setCell ⟨q, 2, none⟩ u2).setCell ⟨q, 3, none⟩ u3).setCell ⟨q, 4, none⟩ u4).setCell ⟨q, 5, none⟩ u5).setCell ⟨q, 6, none⟩ u6).cell? ⟨p, i, none⟩ = w.cell? ⟨p, i, none⟩ := by
  rw [World.cell?_setCell_other, World.cell?_setCell_other, World.cell?_setCell_other, World.cell?_setCell_other, World.cell?_setCell_other, World.cell?_setCell_other, World.cell?_setCell_other] <;> first | (simp; done) | simpa using hn
theorem RowsAt.put7 {w : World} {g hb ho C R q : Nat} (h : RowsAt w g hb ho C R) (hn : g ≠ q) (u0 u1 u2 u3 u4 u5 u6 : Value) : RowsAt (((((((w.setCell ⟨q, 0, none⟩ u0).setCell ⟨q, 1, none⟩ u1).setCell ⟨q, 2, none⟩ u2).setCell ⟨q, 3, none⟩ u3).setCell ⟨q, 4, none⟩ u4).setCell ⟨q, 5, none⟩ u5).setCell ⟨q, 6, none⟩ u6) g hb ho C R :=
  ⟨by simpa using h.1, fun k hk => (far7 _ _ _ _ _ _ _ hn).trans (h.2 k hk)⟩
theorem good_len7 {R C : Nat} {s : Int} {zs : List Int} (G : Gw.Good R C s zs) : zs.length = R * C := by have := G.n; exact_mod_cast this
theorem own_cap7 {B g n cap : Nat} {w : World} {zs : List Int} (h : Own B w (.slice (some ⟨g, 0, none⟩) n cap) zs) : n ≤ cap := by
  rcases h.2 with ⟨hv, _⟩ | ⟨g', cap', cur, hv, _, _, hc, _⟩
  · cases hv
  · simp only [Value.slice.injEq] at hv; omega
namespace Ms
theorem okM_t {ms : List Int} {n : Nat} (h : ms.length = n) (hn : n ≤ 64) : okM ms n = okI ms 1000000 := by unfold okM okI; rw [decide_eq_true h, decide_eq_true (by omega)]
theorem okM_f {ms : List Int} {n : Nat} (h : ¬ ms.length = n) : okM ms n = false := by unfold okM; rw [decide_eq_false h]; rfl
/-- the code of a question about masses and a friction -/
def rtC (r c s : Int) (zs ms : List Int) (fr : Int) : Int := odC (Gw.ok r c s zs) (Ar.inB 1 fr 5000) (okM ms zs.length)
theorem od_two (b o : Bool) : odC true b o = 0 ∨ odC true b o = 2 ∨ odC true b o = 7 := by cases b <;> cases o <;> decide
theorem od_00 {b o : Bool} (h : odC true b o = 0) : b = true ∧ o = true := by cases b <;> cases o <;> first | exact ⟨rfl, rfl⟩ | (revert h; decide)
end Ms
theorem itselfM_any (x : Int) (w : World) : Calls Try.prog 107 #[.int .i64 x] w fun e w' => e = .returned (.int .i64 x) ∧ w = w' := by
  go_enter Try.func107, Try.ntmps107
  go_wp2
  go_ret
  exact ⟨rfl, rfl⟩
set_option maxHeartbeats 1600000 in
theorem sumM_any (w : World) (v : Value) (zs : List Int) (hl : zs.length ≤ 64) (hv : Sl w v zs) (hms : ∀ k (hk : k < zs.length), 0 ≤ zs[k] ∧ zs[k] ≤ 1000000000) :
    Calls Try.prog 49 #[v, .func (.func 107) #[] #[]] w fun e w' => e = .returned (.int .i64 zs.sum) ∧ w = w' := by
  have eg := enters_of Try.func107 (by kernel_rfl) rfl
  obtain ⟨a, cap, rfl⟩ := hv.form
  have HV := Lib.hid hv
  have HM := Lib.hid hms
  clear hv hms
  go_enter Try.func49, Try.ntmps49
  go_wp2
  go_loop [5, 10] (fun s i => ∃ (k : Nat) (z : Int), k ≤ zs.length ∧ i = .int .i64 k ∧ s = .int .i64 z ∧ 0 ≤ z ∧ z ≤ 1000000000 * k ∧ Hid (z = (zs.take k).sum)) (fun _ i => zs.length - (intOf i).toNat)
  case atStart => exact ⟨0, 0, Nat.zero_le _, rfl, rfl, by omega, by omega, Lib.hid rfl⟩
  case round =>
    obtain ⟨k, z, hk, rfl, rfl, z1, z2, hz⟩ := hrel
    by_cases hlt : k < zs.length
    · have hltz : (k : Int) < (zs.length : Int) := by omega
      obtain ⟨b', off, cap1, hn, hbl, hcc⟩ := HV.out.atI hlt
      simp only [Value.slice.injEq] at hn
      obtain ⟨rfl, -, rfl⟩ := hn
      have k1 := hcc k hlt
      obtain ⟨m1, m2⟩ := HM.out k hlt
      have hn := Lib.hid (Ms.sum_take hlt)
      have C := fun W => Lib.hid (itselfM_any zs[k] W)
      clear hcc
      generalize zs[k] = y at *
      go_wp2_with fail
      refine (C _).out.mono ?_
      rintro e w1 ⟨rfl, rfl⟩
      go_wp2_with fail
      exact ⟨⟨k + 1, z + y, by omega, by go_num, rfl, by omega, by omega, Lib.hid (by rw [hn.out, hz.out])⟩, by simp only [intOf]; omega⟩
    · have hltz : ¬ (k : Int) < (zs.length : Int) := by omega
      have hkz : k = zs.length := by omega
      have hn : Hid (z = zs.sum) := Lib.hid (by rw [hz.out, hkz, List.take_length])
      clear hkz
      go_wp2
      go_ret
      exact ⟨ret_int hn.out, rfl⟩
set_option maxHeartbeats 800000 in
theorem isShortM1_any (x g : Int) (b : Nat) (w : World) (hc : w.cell? ⟨b, 0, none⟩ = some (.int .i64 g)) :
    Calls Try.prog 110 #[.int .i64 x, .pointer (some ⟨b, 0, none⟩)] w fun e w' => e = .returned (.bool (!Ar.inB 0 x g)) ∧ w = w' := by
  go_enter Try.func110, Try.ntmps110
  go_wp2_with (go_at_call 79; refine (within_any _ _ _ _).mono ?_; rintro e w' ⟨rfl, rfl⟩)
  go_ret
  exact ⟨rfl, rfl⟩
theorem boxM_kept {w W : World} {n : Int} {t : TypeId} (h : Below (w.alloc (.cells #[.int .i64 n] t)).heap.size (w.alloc (.cells #[.int .i64 n] t)) W) : W.cell? ⟨w.heap.size, 0, none⟩ = some (.int .i64 n) := ((Whole.new w t #[.int .i64 n]).all h).at_ 0
set_option maxHeartbeats 1600000 in
theorem isShortM_any (w : World) (v : Value) (zs : List Int) (g : Int) (hv : Sl w v zs) (hl : zs.length ≤ 1048576) :
    Calls Try.prog 85 #[v, .int .i64 g] w fun e w' => e = .returned (.bool (Ms.okI zs g)) ∧ Below w.heap.size w w' := by
  have B := Lib.hid ((Below.refl w.heap.size w).alloc (Nat.le_refl _) (.cells #[.int .i64 g] 2))
  have C := Lib.hid (containsFuncI_any 110 #[.pointer (some ⟨w.heap.size, 0, none⟩)] (enters_of Try.func110 (by kernel_rfl) rfl) (fun x => !Ar.inB 0 x g) (w.alloc (.cells #[.int .i64 g] 2)) v zs hl (hv.below B.out)
    (fun x W hW => (isShortM1_any x g w.heap.size W (boxM_kept hW)).mono fun _ _ ⟨h, h'⟩ => ⟨h, h' ▸ hW⟩))
  obtain ⟨a, cap, rfl⟩ := hv.form
  by_cases h64 : zs.length ≤ 64
  · have h : ¬ 64 < zs.length := by omega
    have hn : Hid ((!zs.any fun x => !Ar.inB 0 x g) = Ms.okI zs g) := Lib.hid (by rw [Ms.not_anyI, Ms.okI_short h64, Bool.not_not])
    clear hv
    go_enter Try.func85, Try.ntmps85
    go_wp2_with fail
    refine C.out.mono ?_
    rintro e w1 ⟨rfl, b1⟩
    generalize (zs.any fun x => !Ar.inB 0 x g) = t at *
    have HB := Lib.hid (bt B.out b1)
    clear b1
    go_wp2_with fail
    go_ret
    exact ⟨ret_bool hn.out, HB.out⟩
  · have h : 64 < zs.length := by omega
    have hn := Lib.hid (Ms.okI_long (g := g) h64)
    clear hv C
    go_enter Try.func85, Try.ntmps85
    go_wp2_with fail
    go_ret
    exact ⟨ret_bool hn.out.symm, B.out⟩
set_option maxHeartbeats 1600000 in
theorem areMasses_any (w : World) (v : Value) (ms : List Int) (n : Nat) (hv : Sl w v ms) (hl : ms.length ≤ 1048576) (hn : n ≤ 64) :
    Calls Try.prog 48 #[v, .int .i64 (n : Int)] w fun e w' => e = .returned (.bool (Ms.okM ms n)) ∧ Below w.heap.size w w' := by
  have C := Lib.hid (isShortM_any w v ms 1000000 hv hl)
  obtain ⟨a, cap, rfl⟩ := hv.form
  clear hv
  by_cases h : ms.length = n
  · have hb : ((ms.length : Int) == (n : Int)) = true := beq_iff_eq.2 (by omega)
    have E : Hid (Ms.okM ms n = Ms.okI ms 1000000) := Lib.hid (Ms.okM_t h hn)
    clear h
    go_enter Try.func48, Try.ntmps48
    go_wp2_with fail
    refine C.out.mono ?_
    rintro e w1 ⟨rfl, b1⟩
    have B1 := Lib.hid b1
    clear b1
    go_wp2_with fail
    go_ret
    exact ⟨ret_bool E.out.symm, B1.out⟩
  · have hb : ((ms.length : Int) == (n : Int)) = false := beq_eq_false_iff_ne.2 (by omega)
    have E : Hid (Ms.okM ms n = false) := Lib.hid (Ms.okM_f h)
    clear h C
    go_enter Try.func48, Try.ntmps48
    go_wp2_with fail
    go_ret
    exact ⟨ret_bool E.out.symm, Below.refl _ _⟩
theorem tm_eq (r c s : Int) (zs ms : List Int) : Ms.rtC r c s zs ms 1 = Ms.tmC r c s zs ms := rfl
theorem tm_no {r c s : Int} {zs ms : List Int} (h : Ms.tmC r c s zs ms ≠ 0) : Ms.tmV r c s zs ms = 0 := by
  unfold Ms.tmC at h; unfold Ms.tmV
  cases h1 : Gw.ok r c s zs <;> cases h2 : Ms.okM ms zs.length <;> rw [h1, h2] at h <;> first | rfl | exact absurd rfl h
theorem tm_yes {r c s : Int} {zs ms : List Int} (h : Ms.tmC r c s zs ms = 0) : Ms.tmV r c s zs ms = ms.sum ∧ Gw.ok r c s zs = true ∧ Ms.okM ms zs.length = true := by
  unfold Ms.tmC at h; unfold Ms.tmV
  cases h1 : Gw.ok r c s zs <;> cases h2 : Ms.okM ms zs.length <;> rw [h1, h2] at h <;> first | exact ⟨rfl, rfl, rfl⟩ | exact absurd h (by decide)
end Go.Proofs.Ytaldmdammipfjaa

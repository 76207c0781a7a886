/-
  The laws' own helpers on PathPoint and slices of it. No condition of its own.
-/
import Derived.Test.YtmieckchppfogaaPthS
import Derived.Deep.QuietTactic
import Derived.BigQuiet
import Derived.StillTailTactics
namespace Go.Proofs.Ytmieckchppfogaa
open Go.RowKit
set_option linter.unusedVariables false
set_option maxRecDepth 100000

set_option maxHeartbeats 1600000 in
theorem toPathPoint_any (x : Pth) (w : World) :
    Calls Try.prog 45 #[.agg #[.int .i64 x.di, .int .i64 x.he]] w fun e w' => e = .returned (.agg #[.int .i64 x.di, .int .i64 x.he]) ∧ Below w.heap.size w w' := by
  go_enter Try.func45, Try.ntmps45
  go_wp2
  exact bodyPost_ret (v := .agg #[.int .i64 x.di, .int .i64 x.he]) (by simp [results, Try.results45, go_sem]) rfl ⟨rfl, (((Below.refl _ _).alloc (Nat.le_refl _) _).alloc (by simp) _).alloc (by simp; omega) _⟩
set_option maxHeartbeats 1600000 in
theorem eqPathPoint_any (x y : Pth) (w : World) :
    Calls Try.prog 52 #[.agg #[.int .i64 x.di, .int .i64 x.he], .agg #[.int .i64 y.di, .int .i64 y.he]] w fun e w' => e = .returned (.bool (Pp.eqL x y)) ∧ Below w.heap.size w w' := by
  go_enter Try.func52, Try.ntmps52
  go_wp2
  all_goals
    go_ret
    refine ⟨ret_bool ?_, ((Below.refl _ _).alloc (Nat.le_refl _) _).alloc (by simp) _⟩
    first
      | exact (Pp.eqL_0 (by assumption)).symm
      | exact (Pp.eqL_1 (by assumption)).symm
      | exact (Pp.eqL_t (by assumption) (by assumption)).symm
set_option maxHeartbeats 1600000 in
/-- the copy of a slice lies in a block that is known -/
theorem toPathPointS_at (w : World) (v : Value) (xs : List Pth) (hv : PpSl w v xs) (hl : xs.length ≤ 1048576) :
    Calls Try.prog 17 #[v] w fun e w' => e = .returned (.slice (some ⟨w.heap.size, 0, none⟩) xs.length xs.length) ∧ PpOwn w.heap.size w' (.slice (some ⟨w.heap.size, 0, none⟩) xs.length xs.length) xs ∧ Below w.heap.size w w' := by
  obtain ⟨i0, hi, hz0, hz1, hz2⟩ := info_parts info_PathPoint
  obtain ⟨a, cap, rfl⟩ := hv.form
  have HV := Lib.hid hv
  clear hv
  go_enter Try.func17, Try.ntmps17
  go_wp2_with (at_make; refine wpList_make_full _ rfl _ _ 25 rfl w.heap.size 46 i0 _ 2 Try.underlying25 hi hz0 hz1 .i64 .i64 _ _ xs.length rfl rfl rfl rfl ?c1 ?c2 ?c3 ?_)
  case c1 => rw [hz2]; omega
  case c2 => unfold maxLen; omega
  case c3 => exact Nat.le_refl _
  intro w1 hown hg
  have hbel : Below w.heap.size w w1 := (Below.refl _ w).grown hg (Nat.le_refl _) (fun k hk => by cases hk)
  have HO : Hid (∃ ys : List Value, w1.ownsRow w.heap.size 46 2 (.slice (some ⟨w.heap.size, 0, none⟩) xs.length xs.length) xs.length ys ∧ ys.take (2 * 0) = iv (Pp.fl (xs.take 0))) := Lib.hid ⟨_, hown, by simp [iv, Pp.fl]⟩
  have HB := Lib.hid hbel
  clear hown hg hbel
  go_wp2
  go_loopw [4] (fun i wr => ∃ k : Nat, k ≤ xs.length ∧ i = .int .i64 k ∧ Hid (Below w.heap.size w wr) ∧ Hid (∃ ys : List Value, wr.ownsRow w.heap.size 46 2 (.slice (some ⟨w.heap.size, 0, none⟩) xs.length xs.length) xs.length ys ∧ ys.take (2 * k) = iv (Pp.fl (xs.take k)))) (fun i _ => xs.length - (intOf i).toNat)
  case atStart => exact ⟨0, Nat.zero_le _, rfl, HB, HO⟩
  case round =>
    obtain ⟨k, hk, rfl, hb, hx⟩ := hrel
    by_cases hlt : k < xs.length
    · obtain ⟨ys, hown, htk⟩ := hx.out
      obtain ⟨b, off, cap', hn, hbl, hc⟩ := HV.out.at_ hlt
      simp only [Value.slice.injEq] at hn
      obtain ⟨rfl, -, rfl⟩ := hn
      have hc' := (hc k hlt).below hb.out hbl
      obtain ⟨c0, c1⟩ := hc'
      clear hc
      go_wp2_with fail
      refine (toPathPoint_any xs[k] _).mono ?_
      rintro e w2 ⟨rfl, b2⟩
      have hown2 := own_belowAll hown b2
      have hb2 := Lib.hid (hb.out.trans (b2.mono hb.out.size))
      have hyl := hown2.1
      have N : Hid (∃ zs : List Value, (setPth w2 w.heap.size k xs[k]).ownsRow w.heap.size 46 2 (.slice (some ⟨w.heap.size, 0, none⟩) xs.length xs.length) xs.length zs ∧ zs.take (2 * (k + 1)) = iv (Pp.fl (xs.take (k + 1)))) := Lib.hid (own_setPth hown2 htk hlt hlt)
      have NB : Hid (Below w.heap.size w (setPth w2 w.heap.size k xs[k])) := Lib.hid (below_setCells (Nat.le_refl _) _ _ hb2.out)
      have g : ∀ j, j < 2 → ∃ u, w2.cell? ⟨w.heap.size, k * 2 + j, none⟩ = some u := fun j hj => ⟨_, (hown2.cellAt (k * 2 + j) (by omega)).trans (List.getElem?_eq_getElem (by omega))⟩
      obtain ⟨y0, d0⟩ := g 0 (by omega)
      obtain ⟨y1, d1⟩ := g 1 (by omega)
      rw [Nat.add_zero] at d0
      have f0 := hown2.frozenAt (k * 2 + 0)
      have f1 := hown2.frozenAt (k * 2 + 1)
      rw [Nat.add_zero] at f0
      clear g hx hown htk hb hown2 c0 c1 b2 hyl
      go_wp2_with fail
      exact ⟨⟨k + 1, by omega, by go_num, NB, N⟩, by simp only [intOf]; omega⟩
    · have hkz : k = xs.length := by omega
      subst hkz
      go_wp2
      go_ret
      refine ⟨rfl, ?_, hb.out⟩
      obtain ⟨ys, hown, htk⟩ := hx.out
      have : ys = iv (Pp.fl xs) := by
        have h1 := hown.1
        rw [List.take_of_length_le (by omega), List.take_length] at htk
        exact htk
      rw [this] at hown
      exact hown
theorem toPathPointS_any (w : World) (v : Value) (xs : List Pth) (hv : PpSl w v xs) (hl : xs.length ≤ 1048576) :
    Calls Try.prog 17 #[v] w fun e w' => ∃ u, e = .returned u ∧ PpOwn w.heap.size w' u xs ∧ Below w.heap.size w w' :=
  (toPathPointS_at w v xs hv hl).mono fun _ _ ⟨he, ho, hb⟩ => ⟨_, he, ho, hb⟩
set_option maxHeartbeats 1600000 in
theorem eqPathPointS_any (w : World) (v u : Value) (xs ys : List Pth) (hv : PpSl w v xs) (hu : PpSl w u ys) (hl : xs.length ≤ 1048576) (hl2 : ys.length ≤ 1048576) :
    Calls Try.prog 19 #[v, u] w fun e w' => e = .returned (.bool (Pp.eqP xs ys)) ∧ Below w.heap.size w w' := by
  obtain ⟨a, cap, rfl⟩ := hv.form
  obtain ⟨a', cap', rfl⟩ := hu.form
  by_cases hlen : xs.length = ys.length
  · have hll : ((xs.length : Int) != (ys.length : Int)) = false := by simp; omega
    have hle : xs.length ≤ ys.length := by omega
    have HL := Lib.hid hlen
    have HV := Lib.hid hv
    have HU := Lib.hid hu
    clear hlen hv hu
    go_enter Try.func19, Try.ntmps19
    go_wp2
    go_loopw [5] (fun i wr => ∃ k : Nat, k ≤ xs.length ∧ i = .int .i64 k ∧ Hid (Below w.heap.size w wr) ∧ Hid (xs.take k = ys.take k)) (fun i _ => xs.length - (intOf i).toNat)
    case atStart => exact ⟨0, Nat.zero_le _, rfl, Lib.hid (Below.refl _ _), Lib.hid rfl⟩
    case round =>
      obtain ⟨k, hk, rfl, hb, hp⟩ := hrel
      by_cases hlt : k < xs.length
      · have hlt3 : k < ys.length := by omega
        obtain ⟨b, off, cap1, hn, hbl, hc⟩ := HV.out.at_ hlt
        simp only [Value.slice.injEq] at hn
        obtain ⟨rfl, -, rfl⟩ := hn
        obtain ⟨c0, c1⟩ := (hc k hlt).below hb.out hbl
        obtain ⟨b', off', cap1', hn', hbl', hc'⟩ := HU.out.at_ hlt3
        simp only [Value.slice.injEq] at hn'
        obtain ⟨rfl, -, rfl⟩ := hn'
        obtain ⟨d0, d1⟩ := (hc' k hlt3).below hb.out hbl'
        clear hc hc'
        have C := fun W => (Lib.hid (eqPathPoint_any xs[k] ys[k] W))
        cases hq : Pp.eqL xs[k] ys[k] with
        | true =>
          have hn := Lib.hid (Pp.take_eqL hlt hlt3 hp.out hq)
          rw [hq] at C
          clear hq
          go_wp2_with fail
          go_still_tail 8, (by kernel_rfl)
          go_wp2_with fail
          refine (C _).out.mono ?_
          rintro e w2 ⟨rfl, b2⟩
          have hb2 := Lib.hid (hb.out.trans ((drew_below b2).mono hb.out.size))
          clear b2 hb c0 c1 d0 d1
          go_wp2_with fail
          exact ⟨⟨k + 1, by omega, by go_num, hb2, hn⟩, by simp only [intOf]; omega⟩
        | false =>
          have hn := Lib.hid (Pp.eqP_at hlt hlt3 hq)
          rw [hq] at C
          clear hq
          go_wp2_with fail
          go_still_tail 8, (by kernel_rfl)
          go_wp2_with fail
          refine (C _).out.mono ?_
          rintro e w2 ⟨rfl, b2⟩
          have hb2 := Lib.hid (hb.out.trans ((drew_below b2).mono hb.out.size))
          clear b2 hb c0 c1 d0 d1
          go_wp2_with fail
          go_ret
          exact ⟨ret_bool hn.out.symm, hb2.out⟩
      · have hkz : k = xs.length := by omega
        have hn : Hid (Pp.eqP xs ys = true) := Lib.hid (Pp.eqP_take HL.out (by rw [← hkz]; exact hp.out))
        clear hkz
        go_wp2
        go_ret
        exact ⟨ret_bool hn.out.symm, hb.out⟩
  · have hll : ((xs.length : Int) != (ys.length : Int)) = true := by rw [bne_iff_ne]; omega
    have hn := Lib.hid (Pp.eqP_len hlen)
    clear hlen hv hu
    go_enter Try.func19, Try.ntmps19
    go_wp2
    go_ret
    exact ⟨ret_bool hn.out.symm, Below.refl _ _⟩
set_option maxHeartbeats 800000 in
theorem szPathPointS_in (w : World) (a : Option Addr) (n cap : Nat) (z : Int) (h : (n : Int) ≤ z) (h2 : z ≤ 1048576) :
    Calls Try.prog 15 #[.slice a n cap, .int .i64 z] w fun e w' => e = .returned (.int .i64 (z - n)) ∧ w = w' := by
  have hz : ¬ z - n < 0 := by omega
  go_enter Try.func15, Try.ntmps15
  go_wp2
  go_ret
  exact ⟨rfl, rfl⟩
set_option maxHeartbeats 800000 in
theorem szPathPointS_out (w : World) (a : Option Addr) (n cap : Nat) (z : Int) (hn : n ≤ 9223372036854775807) (h : z < (n : Int)) (h1 : 0 ≤ z) :
    Calls Try.prog 15 #[.slice a n cap, .int .i64 z] w fun e w' => e = .returned (.int .i64 (-1)) ∧ w = w' := by
  have hz : z - n < 0 := by omega
  go_enter Try.func15, Try.ntmps15
  go_wp2
  go_ret
  exact ⟨rfl, rfl⟩
end Go.Proofs.Ytmieckchppfogaa

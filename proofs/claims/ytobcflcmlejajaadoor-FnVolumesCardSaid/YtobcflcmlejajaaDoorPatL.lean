/-
  The laws' own helpers on Part and slices of it. No condition of its own.
-/
import Derived.Test.YtobcflcmlejajaaDoorPatS
import Derived.Deep.QuietTactic
import Derived.BigQuiet
import Derived.StillTailTactics
namespace Go.Proofs.YtobcflcmlejajaaDoor
open Go.RowKit
set_option linter.unusedVariables false
set_option maxRecDepth 100000

set_option maxHeartbeats 1600000 in
theorem toPart_any (x : Pat) (w : World) :
    Calls Tryd.prog 42 #[.agg #[.int .i64 x.le, .int .i64 x.wi, .int .i64 x.de, .int .i64 x.dn]] w fun e w' => e = .returned (.agg #[.int .i64 x.le, .int .i64 x.wi, .int .i64 x.de, .int .i64 x.dn]) ∧ Below w.heap.size w w' := by
  go_enter Tryd.func42, Tryd.ntmps42
  go_wp2
  exact bodyPost_ret (v := .agg #[.int .i64 x.le, .int .i64 x.wi, .int .i64 x.de, .int .i64 x.dn]) (by simp [results, Tryd.results42, go_sem]) rfl ⟨rfl, (((Below.refl _ _).alloc (Nat.le_refl _) _).alloc (by simp) _).alloc (by simp; omega) _⟩
set_option maxHeartbeats 1600000 in
theorem eqPart_any (x y : Pat) (w : World) :
    Calls Tryd.prog 46 #[.agg #[.int .i64 x.le, .int .i64 x.wi, .int .i64 x.de, .int .i64 x.dn], .agg #[.int .i64 y.le, .int .i64 y.wi, .int .i64 y.de, .int .i64 y.dn]] w fun e w' => e = .returned (.bool (Pa.eqL x y)) ∧ Below w.heap.size w w' := by
  go_enter Tryd.func46, Tryd.ntmps46
  go_wp2
  all_goals
    go_ret
    refine ⟨ret_bool ?_, ((Below.refl _ _).alloc (Nat.le_refl _) _).alloc (by simp) _⟩
    first
      | exact (Pa.eqL_0 (by assumption)).symm
      | exact (Pa.eqL_1 (by assumption)).symm
      | exact (Pa.eqL_2 (by assumption)).symm
      | exact (Pa.eqL_3 (by assumption)).symm
      | exact (Pa.eqL_t (by assumption) (by assumption) (by assumption) (by assumption)).symm
set_option maxHeartbeats 1600000 in
/-- the copy of a slice lies in a block that is known -/
theorem toPartS_at (w : World) (v : Value) (xs : List Pat) (hv : PaSl w v xs) (hl : xs.length ≤ 1048576) :
    Calls Tryd.prog 16 #[v] w fun e w' => e = .returned (.slice (some ⟨w.heap.size, 0, none⟩) xs.length xs.length) ∧ PaOwn w.heap.size w' (.slice (some ⟨w.heap.size, 0, none⟩) xs.length xs.length) xs ∧ Below w.heap.size w w' := by
  obtain ⟨i0, hi, hz0, hz1, hz2⟩ := info_parts info_Part
  obtain ⟨a, cap, rfl⟩ := hv.form
  have HV := Lib.hid hv
  clear hv
  go_enter Tryd.func16, Tryd.ntmps16
  go_wp2_with (at_make; refine wpList_make_full _ rfl _ _ 30 rfl w.heap.size 59 i0 _ 4 Tryd.underlying30 hi hz0 hz1 .i64 .i64 _ _ xs.length rfl rfl rfl rfl ?c1 ?c2 ?c3 ?_)
  case c1 => rw [hz2]; omega
  case c2 => unfold maxLen; omega
  case c3 => exact Nat.le_refl _
  intro w1 hown hg
  have hbel : Below w.heap.size w w1 := (Below.refl _ w).grown hg (Nat.le_refl _) (fun k hk => by cases hk)
  have HO : Hid (∃ ys : List Value, w1.ownsRow w.heap.size 59 4 (.slice (some ⟨w.heap.size, 0, none⟩) xs.length xs.length) xs.length ys ∧ ys.take (4 * 0) = iv (Pa.fl (xs.take 0))) := Lib.hid ⟨_, hown, by simp [iv, Pa.fl]⟩
  have HB := Lib.hid hbel
  clear hown hg hbel
  go_wp2
  go_loopw [4] (fun i wr => ∃ k : Nat, k ≤ xs.length ∧ i = .int .i64 k ∧ Hid (Below w.heap.size w wr) ∧ Hid (∃ ys : List Value, wr.ownsRow w.heap.size 59 4 (.slice (some ⟨w.heap.size, 0, none⟩) xs.length xs.length) xs.length ys ∧ ys.take (4 * k) = iv (Pa.fl (xs.take k)))) (fun i _ => xs.length - (intOf i).toNat)
  case atStart => exact ⟨0, Nat.zero_le _, rfl, HB, HO⟩
  case round =>
    obtain ⟨k, hk, rfl, hb, hx⟩ := hrel
    by_cases hlt : k < xs.length
    · obtain ⟨ys, hown, htk⟩ := hx.out
      obtain ⟨b, off, cap', hn, hbl, hc⟩ := HV.out.at_ hlt
      simp only [Value.slice.injEq] at hn
      obtain ⟨rfl, -, rfl⟩ := hn
      have hc' := (hc k hlt).below hb.out hbl
      obtain ⟨c0, c1, c2, c3⟩ := hc'
      clear hc
      go_wp2_with fail
      refine (toPart_any xs[k] _).mono ?_
      rintro e w2 ⟨rfl, b2⟩
      have hown2 := own_belowAll hown b2
      have hb2 := Lib.hid (hb.out.trans (b2.mono hb.out.size))
      have hyl := hown2.1
      have N : Hid (∃ zs : List Value, (setPat w2 w.heap.size k xs[k]).ownsRow w.heap.size 59 4 (.slice (some ⟨w.heap.size, 0, none⟩) xs.length xs.length) xs.length zs ∧ zs.take (4 * (k + 1)) = iv (Pa.fl (xs.take (k + 1)))) := Lib.hid (own_setPat hown2 htk hlt hlt)
      have NB : Hid (Below w.heap.size w (setPat w2 w.heap.size k xs[k])) := Lib.hid (below_setCells (Nat.le_refl _) _ _ hb2.out)
      have g : ∀ j, j < 4 → ∃ u, w2.cell? ⟨w.heap.size, k * 4 + j, none⟩ = some u := fun j hj => ⟨_, (hown2.cellAt (k * 4 + j) (by omega)).trans (List.getElem?_eq_getElem (by omega))⟩
      obtain ⟨y0, d0⟩ := g 0 (by omega)
      obtain ⟨y1, d1⟩ := g 1 (by omega)
      obtain ⟨y2, d2⟩ := g 2 (by omega)
      obtain ⟨y3, d3⟩ := g 3 (by omega)
      rw [Nat.add_zero] at d0
      have f0 := hown2.frozenAt (k * 4 + 0)
      have f1 := hown2.frozenAt (k * 4 + 1)
      have f2 := hown2.frozenAt (k * 4 + 2)
      have f3 := hown2.frozenAt (k * 4 + 3)
      rw [Nat.add_zero] at f0
      clear g hx hown htk hb hown2 c0 c1 c2 c3 b2 hyl
      go_wp2_with fail
      exact ⟨⟨k + 1, by omega, by go_num, NB, N⟩, by simp only [intOf]; omega⟩
    · have hkz : k = xs.length := by omega
      subst hkz
      go_wp2
      go_ret
      refine ⟨rfl, ?_, hb.out⟩
      obtain ⟨ys, hown, htk⟩ := hx.out
      have : ys = iv (Pa.fl xs) := by
        have h1 := hown.1
        rw [List.take_of_length_le (by omega), List.take_length] at htk
        exact htk
      rw [this] at hown
      exact hown
theorem toPartS_any (w : World) (v : Value) (xs : List Pat) (hv : PaSl w v xs) (hl : xs.length ≤ 1048576) :
    Calls Tryd.prog 16 #[v] w fun e w' => ∃ u, e = .returned u ∧ PaOwn w.heap.size w' u xs ∧ Below w.heap.size w w' :=
  (toPartS_at w v xs hv hl).mono fun _ _ ⟨he, ho, hb⟩ => ⟨_, he, ho, hb⟩
set_option maxHeartbeats 1600000 in
theorem eqPartS_any (w : World) (v u : Value) (xs ys : List Pat) (hv : PaSl w v xs) (hu : PaSl w u ys) (hl : xs.length ≤ 1048576) (hl2 : ys.length ≤ 1048576) :
    Calls Tryd.prog 19 #[v, u] w fun e w' => e = .returned (.bool (Pa.eqP xs ys)) ∧ Below w.heap.size w w' := by
  obtain ⟨a, cap, rfl⟩ := hv.form
  obtain ⟨a', cap', rfl⟩ := hu.form
  by_cases hlen : xs.length = ys.length
  · have hll : ((xs.length : Int) != (ys.length : Int)) = false := by simp; omega
    have hle : xs.length ≤ ys.length := by omega
    have HL := Lib.hid hlen
    have HV := Lib.hid hv
    have HU := Lib.hid hu
    clear hlen hv hu
    go_enter Tryd.func19, Tryd.ntmps19
    go_wp2
    go_loopw [5] (fun i wr => ∃ k : Nat, k ≤ xs.length ∧ i = .int .i64 k ∧ Hid (Below w.heap.size w wr) ∧ Hid (xs.take k = ys.take k)) (fun i _ => xs.length - (intOf i).toNat)
    case atStart => exact ⟨0, Nat.zero_le _, rfl, Lib.hid (Below.refl _ _), Lib.hid rfl⟩
    case round =>
      obtain ⟨k, hk, rfl, hb, hp⟩ := hrel
      by_cases hlt : k < xs.length
      · have hlt3 : k < ys.length := by omega
        obtain ⟨b, off, cap1, hn, hbl, hc⟩ := HV.out.at_ hlt
        simp only [Value.slice.injEq] at hn
        obtain ⟨rfl, -, rfl⟩ := hn
        obtain ⟨c0, c1, c2, c3⟩ := (hc k hlt).below hb.out hbl
        obtain ⟨b', off', cap1', hn', hbl', hc'⟩ := HU.out.at_ hlt3
        simp only [Value.slice.injEq] at hn'
        obtain ⟨rfl, -, rfl⟩ := hn'
        obtain ⟨d0, d1, d2, d3⟩ := (hc' k hlt3).below hb.out hbl'
        clear hc hc'
        have C := fun W => (Lib.hid (eqPart_any xs[k] ys[k] W))
        cases hq : Pa.eqL xs[k] ys[k] with
        | true =>
          have hn := Lib.hid (Pa.take_eqL hlt hlt3 hp.out hq)
          rw [hq] at C
          clear hq
          go_wp2_with fail
          go_still_tail 8, (by kernel_rfl)
          go_wp2_with fail
          refine (C _).out.mono ?_
          rintro e w2 ⟨rfl, b2⟩
          have hb2 := Lib.hid (hb.out.trans ((drew_below b2).mono hb.out.size))
          clear b2 hb c0 c1 c2 c3 d0 d1 d2 d3
          go_wp2_with fail
          exact ⟨⟨k + 1, by omega, by go_num, hb2, hn⟩, by simp only [intOf]; omega⟩
        | false =>
          have hn := Lib.hid (Pa.eqP_at hlt hlt3 hq)
          rw [hq] at C
          clear hq
          go_wp2_with fail
          go_still_tail 8, (by kernel_rfl)
          go_wp2_with fail
          refine (C _).out.mono ?_
          rintro e w2 ⟨rfl, b2⟩
          have hb2 := Lib.hid (hb.out.trans ((drew_below b2).mono hb.out.size))
          clear b2 hb c0 c1 c2 c3 d0 d1 d2 d3
          go_wp2_with fail
          go_ret
          exact ⟨ret_bool hn.out.symm, hb2.out⟩
      · have hkz : k = xs.length := by omega
        have hn : Hid (Pa.eqP xs ys = true) := Lib.hid (Pa.eqP_take HL.out (by rw [← hkz]; exact hp.out))
        clear hkz
        go_wp2
        go_ret
        exact ⟨ret_bool hn.out.symm, hb.out⟩
  · have hll : ((xs.length : Int) != (ys.length : Int)) = true := by rw [bne_iff_ne]; omega
    have hn := Lib.hid (Pa.eqP_len hlen)
    clear hlen hv hu
    go_enter Tryd.func19, Tryd.ntmps19
    go_wp2
    go_ret
    exact ⟨ret_bool hn.out.symm, Below.refl _ _⟩
set_option maxHeartbeats 800000 in
theorem szPartS_in (w : World) (a : Option Addr) (n cap : Nat) (z : Int) (h : (n : Int) ≤ z) (h2 : z ≤ 1048576) :
    Calls Tryd.prog 14 #[.slice a n cap, .int .i64 z] w fun e w' => e = .returned (.int .i64 (z - n)) ∧ w = w' := by
  have hz : ¬ z - n < 0 := by omega
  go_enter Tryd.func14, Tryd.ntmps14
  go_wp2
  go_ret
  exact ⟨rfl, rfl⟩
set_option maxHeartbeats 800000 in
theorem szPartS_out (w : World) (a : Option Addr) (n cap : Nat) (z : Int) (hn : n ≤ 9223372036854775807) (h : z < (n : Int)) (h1 : 0 ≤ z) :
    Calls Tryd.prog 14 #[.slice a n cap, .int .i64 z] w fun e w' => e = .returned (.int .i64 (-1)) ∧ w = w' := by
  have hz : z - n < 0 := by omega
  go_enter Tryd.func14, Tryd.ntmps14
  go_wp2
  go_ret
  exact ⟨rfl, rfl⟩
end Go.Proofs.YtobcflcmlejajaaDoor

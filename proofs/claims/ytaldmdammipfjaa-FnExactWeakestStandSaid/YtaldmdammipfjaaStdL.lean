/-
  The laws' own helpers on Stand and slices of it. No condition of its own.
-/
import Derived.Test.YtaldmdammipfjaaStdS
import Derived.Deep.QuietTactic
import Derived.BigQuiet
import Derived.StillTailTactics
namespace Go.Proofs.Ytaldmdammipfjaa
open Go.RowKit
set_option linter.unusedVariables false
set_option maxRecDepth 100000

set_option maxHeartbeats 1600000 in
theorem toStand_any (x : Std) (w : World) :
    Calls Try.prog 69 #[.agg #[.string ⟨x.id.toArray⟩, .int .i64 x.tr, .int .i64 x.he, .int .i64 x.co, .int .i64 x.ga]] w fun e w' => e = .returned (.agg #[.string ⟨x.id.toArray⟩, .int .i64 x.tr, .int .i64 x.he, .int .i64 x.co, .int .i64 x.ga]) ∧ Below w.heap.size w w' := by
  go_enter Try.func69, Try.ntmps69
  go_wp2
  exact bodyPost_ret (v := .agg #[.string ⟨x.id.toArray⟩, .int .i64 x.tr, .int .i64 x.he, .int .i64 x.co, .int .i64 x.ga]) (by simp [results, Try.results69, go_sem]) rfl ⟨rfl, (((Below.refl _ _).alloc (Nat.le_refl _) _).alloc (by simp) _).alloc (by simp; omega) _⟩
set_option maxHeartbeats 1600000 in
theorem eqStand_any (x y : Std) (w : World) :
    Calls Try.prog 74 #[.agg #[.string ⟨x.id.toArray⟩, .int .i64 x.tr, .int .i64 x.he, .int .i64 x.co, .int .i64 x.ga], .agg #[.string ⟨y.id.toArray⟩, .int .i64 y.tr, .int .i64 y.he, .int .i64 y.co, .int .i64 y.ga]] w fun e w' => e = .returned (.bool (Sn.eqL x y)) ∧ Below w.heap.size w w' := by
  go_enter Try.func74, Try.ntmps74
  go_wp2
  all_goals
    go_ret
    refine ⟨ret_bool ?_, ((Below.refl _ _).alloc (Nat.le_refl _) _).alloc (by simp) _⟩
    first
      | exact (Sn.eqL_0 (by assumption)).symm
      | exact (Sn.eqL_1 (by assumption)).symm
      | exact (Sn.eqL_2 (by assumption)).symm
      | exact (Sn.eqL_3 (by assumption)).symm
      | exact (Sn.eqL_4 (by assumption)).symm
      | exact (Sn.eqL_t (by assumption) (by assumption) (by assumption) (by assumption) (by assumption)).symm
set_option maxHeartbeats 1600000 in
/-- the copy of a slice lies in a block that is known -/
theorem toStandS_at (w : World) (v : Value) (xs : List Std) (hv : SnSl w v xs) (hl : xs.length ≤ 1048576) :
    Calls Try.prog 31 #[v] w fun e w' => e = .returned (.slice (some ⟨w.heap.size, 0, none⟩) xs.length xs.length) ∧ SnOwn w.heap.size w' (.slice (some ⟨w.heap.size, 0, none⟩) xs.length xs.length) xs ∧ Below w.heap.size w w' := by
  obtain ⟨i0, hi, hz0, hz1, hz2⟩ := info_parts info_Stand
  obtain ⟨a, cap, rfl⟩ := hv.form
  have HV := Lib.hid hv
  clear hv
  go_enter Try.func31, Try.ntmps31
  go_wp2_with (at_make; refine wpList_make_full _ rfl _ _ 53 rfl w.heap.size 101 i0 _ 5 Try.underlying53 hi hz0 hz1 .i64 .i64 _ _ xs.length rfl rfl rfl rfl ?c1 ?c2 ?c3 ?_)
  case c1 => rw [hz2]; omega
  case c2 => unfold maxLen; omega
  case c3 => exact Nat.le_refl _
  intro w1 hown hg
  have hbel : Below w.heap.size w w1 := (Below.refl _ w).grown hg (Nat.le_refl _) (fun k hk => by cases hk)
  have HO : Hid (∃ ys : List Value, w1.ownsRow w.heap.size 101 5 (.slice (some ⟨w.heap.size, 0, none⟩) xs.length xs.length) xs.length ys ∧ ys.take (5 * 0) = Sn.fl (xs.take 0)) := Lib.hid ⟨_, hown, by simp [Sn.fl]⟩
  have HB := Lib.hid hbel
  clear hown hg hbel
  go_wp2
  go_loopw [4] (fun i wr => ∃ k : Nat, k ≤ xs.length ∧ i = .int .i64 k ∧ Hid (Below w.heap.size w wr) ∧ Hid (∃ ys : List Value, wr.ownsRow w.heap.size 101 5 (.slice (some ⟨w.heap.size, 0, none⟩) xs.length xs.length) xs.length ys ∧ ys.take (5 * k) = Sn.fl (xs.take k))) (fun i _ => xs.length - (intOf i).toNat)
  case atStart => exact ⟨0, Nat.zero_le _, rfl, HB, HO⟩
  case round =>
    obtain ⟨k, hk, rfl, hb, hx⟩ := hrel
    by_cases hlt : k < xs.length
    · obtain ⟨ys, hown, htk⟩ := hx.out
      obtain ⟨b, off, cap', hn, hbl, hc⟩ := HV.out.at_ hlt
      simp only [Value.slice.injEq] at hn
      obtain ⟨rfl, -, rfl⟩ := hn
      have hc' := (hc k hlt).below hb.out hbl
      obtain ⟨c0, c1, c2, c3, c4⟩ := hc'
      clear hc
      go_wp2_with fail
      refine (toStand_any xs[k] _).mono ?_
      rintro e w2 ⟨rfl, b2⟩
      have hown2 := own_belowAll hown b2
      have hb2 := Lib.hid (hb.out.trans (b2.mono hb.out.size))
      have hyl := hown2.1
      have N : Hid (∃ zs : List Value, (setStd w2 w.heap.size k xs[k]).ownsRow w.heap.size 101 5 (.slice (some ⟨w.heap.size, 0, none⟩) xs.length xs.length) xs.length zs ∧ zs.take (5 * (k + 1)) = Sn.fl (xs.take (k + 1))) := Lib.hid (own_setStd hown2 htk hlt hlt)
      have NB : Hid (Below w.heap.size w (setStd w2 w.heap.size k xs[k])) := Lib.hid (below_setCells (Nat.le_refl _) _ _ hb2.out)
      have g : ∀ j, j < 5 → ∃ u, w2.cell? ⟨w.heap.size, k * 5 + j, none⟩ = some u := fun j hj => ⟨_, (hown2.cellAt (k * 5 + j) (by omega)).trans (List.getElem?_eq_getElem (by omega))⟩
      obtain ⟨y0, d0⟩ := g 0 (by omega)
      obtain ⟨y1, d1⟩ := g 1 (by omega)
      obtain ⟨y2, d2⟩ := g 2 (by omega)
      obtain ⟨y3, d3⟩ := g 3 (by omega)
      obtain ⟨y4, d4⟩ := g 4 (by omega)
      rw [Nat.add_zero] at d0
      have f0 := hown2.frozenAt (k * 5 + 0)
      have f1 := hown2.frozenAt (k * 5 + 1)
      have f2 := hown2.frozenAt (k * 5 + 2)
      have f3 := hown2.frozenAt (k * 5 + 3)
      have f4 := hown2.frozenAt (k * 5 + 4)
      rw [Nat.add_zero] at f0
      clear g hx hown htk hb hown2 c0 c1 c2 c3 c4 b2 hyl
      go_wp2_with fail
      exact ⟨⟨k + 1, by omega, by go_num, NB, N⟩, by simp only [intOf]; omega⟩
    · have hkz : k = xs.length := by omega
      subst hkz
      go_wp2
      go_ret
      refine ⟨rfl, ?_, hb.out⟩
      obtain ⟨ys, hown, htk⟩ := hx.out
      have : ys = Sn.fl xs := by
        have h1 := hown.1
        rw [List.take_of_length_le (by omega), List.take_length] at htk
        exact htk
      rw [this] at hown
      exact hown
theorem toStandS_any (w : World) (v : Value) (xs : List Std) (hv : SnSl w v xs) (hl : xs.length ≤ 1048576) :
    Calls Try.prog 31 #[v] w fun e w' => ∃ u, e = .returned u ∧ SnOwn w.heap.size w' u xs ∧ Below w.heap.size w w' :=
  (toStandS_at w v xs hv hl).mono fun _ _ ⟨he, ho, hb⟩ => ⟨_, he, ho, hb⟩
set_option maxHeartbeats 1600000 in
theorem eqStandS_any (w : World) (v u : Value) (xs ys : List Std) (hv : SnSl w v xs) (hu : SnSl w u ys) (hl : xs.length ≤ 1048576) (hl2 : ys.length ≤ 1048576) :
    Calls Try.prog 33 #[v, u] w fun e w' => e = .returned (.bool (Sn.eqP xs ys)) ∧ Below w.heap.size w w' := by
  obtain ⟨a, cap, rfl⟩ := hv.form
  obtain ⟨a', cap', rfl⟩ := hu.form
  by_cases hlen : xs.length = ys.length
  · have hll : ((xs.length : Int) != (ys.length : Int)) = false := by simp; omega
    have hle : xs.length ≤ ys.length := by omega
    have HL := Lib.hid hlen
    have HV := Lib.hid hv
    have HU := Lib.hid hu
    clear hlen hv hu
    go_enter Try.func33, Try.ntmps33
    go_wp2
    go_loopw [5] (fun i wr => ∃ k : Nat, k ≤ xs.length ∧ i = .int .i64 k ∧ Hid (Below w.heap.size w wr) ∧ Hid (xs.take k = ys.take k)) (fun i _ => xs.length - (intOf i).toNat)
    case atStart => exact ⟨0, Nat.zero_le _, rfl, Lib.hid (Below.refl _ _), Lib.hid rfl⟩
    case round =>
      obtain ⟨k, hk, rfl, hb, hp⟩ := hrel
      by_cases hlt : k < xs.length
      · have hlt3 : k < ys.length := by omega
        obtain ⟨b, off, cap1, hn, hbl, hc⟩ := HV.out.at_ hlt
        simp only [Value.slice.injEq] at hn
        obtain ⟨rfl, -, rfl⟩ := hn
        obtain ⟨c0, c1, c2, c3, c4⟩ := (hc k hlt).below hb.out hbl
        obtain ⟨b', off', cap1', hn', hbl', hc'⟩ := HU.out.at_ hlt3
        simp only [Value.slice.injEq] at hn'
        obtain ⟨rfl, -, rfl⟩ := hn'
        obtain ⟨d0, d1, d2, d3, d4⟩ := (hc' k hlt3).below hb.out hbl'
        clear hc hc'
        have C := fun W => (Lib.hid (eqStand_any xs[k] ys[k] W))
        cases hq : Sn.eqL xs[k] ys[k] with
        | true =>
          have hn := Lib.hid (Sn.take_eqL hlt hlt3 hp.out hq)
          rw [hq] at C
          clear hq
          go_wp2_with fail
          go_still_tail 8, (by kernel_rfl)
          go_wp2_with fail
          refine (C _).out.mono ?_
          rintro e w2 ⟨rfl, b2⟩
          have hb2 := Lib.hid (hb.out.trans ((drew_below b2).mono hb.out.size))
          clear b2 hb c0 c1 c2 c3 c4 d0 d1 d2 d3 d4
          go_wp2_with fail
          exact ⟨⟨k + 1, by omega, by go_num, hb2, hn⟩, by simp only [intOf]; omega⟩
        | false =>
          have hn := Lib.hid (Sn.eqP_at hlt hlt3 hq)
          rw [hq] at C
          clear hq
          go_wp2_with fail
          go_still_tail 8, (by kernel_rfl)
          go_wp2_with fail
          refine (C _).out.mono ?_
          rintro e w2 ⟨rfl, b2⟩
          have hb2 := Lib.hid (hb.out.trans ((drew_below b2).mono hb.out.size))
          clear b2 hb c0 c1 c2 c3 c4 d0 d1 d2 d3 d4
          go_wp2_with fail
          go_ret
          exact ⟨ret_bool hn.out.symm, hb2.out⟩
      · have hkz : k = xs.length := by omega
        have hn : Hid (Sn.eqP xs ys = true) := Lib.hid (Sn.eqP_take HL.out (by rw [← hkz]; exact hp.out))
        clear hkz
        go_wp2
        go_ret
        exact ⟨ret_bool hn.out.symm, hb.out⟩
  · have hll : ((xs.length : Int) != (ys.length : Int)) = true := by rw [bne_iff_ne]; omega
    have hn := Lib.hid (Sn.eqP_len hlen)
    clear hlen hv hu
    go_enter Try.func33, Try.ntmps33
    go_wp2
    go_ret
    exact ⟨ret_bool hn.out.symm, Below.refl _ _⟩
set_option maxHeartbeats 1600000 in
theorem szStand_in (x : Std) (w : World) (z : Int) (h : (Sn.szn x : Int) ≤ z) (h2 : z ≤ 1048576) :
    Calls Try.prog 65 #[.agg #[.string ⟨x.id.toArray⟩, .int .i64 x.tr, .int .i64 x.he, .int .i64 x.co, .int .i64 x.ga], .int .i64 z] w fun e w' => e = .returned (.int .i64 (z - Sn.szn x)) ∧ Below w.heap.size w w' := by
  unfold Sn.szn at *
  have g0 : ¬ z - (x.id.length : Int) < 0 := by omega
  go_enter Try.func65, Try.ntmps65
  go_wp2
  go_ret
  exact ⟨ret_int (by first | rfl | (push_cast; omega)), (Below.refl _ _).alloc (Nat.le_refl _) _⟩
set_option maxHeartbeats 1600000 in
theorem szStand_out (x : Std) (w : World) (z : Int) (hb : Sn.Bd x) (h0 : 0 ≤ z) (h : z < (Sn.szn x : Int)) (h2 : z ≤ 1048576) :
    Calls Try.prog 65 #[.agg #[.string ⟨x.id.toArray⟩, .int .i64 x.tr, .int .i64 x.he, .int .i64 x.co, .int .i64 x.ga], .int .i64 z] w fun e w' => e = .returned (.int .i64 (-1)) ∧ Below w.heap.size w w' := by
  unfold Sn.szn at *
  unfold Sn.Bd maxLen at hb
  have g0 : z - (x.id.length : Int) < 0 := by omega
  go_enter Try.func65, Try.ntmps65
  go_wp2
  all_goals
    first
    | (exfalso; omega)
    | (go_ret
       exact ⟨rfl, (Below.refl _ _).alloc (Nat.le_refl _) _⟩)
set_option maxHeartbeats 1600000 in
theorem szStandS_in (w : World) (v : Value) (xs : List Std) (hv : SnSl w v xs) (z : Int) (h : (xs.length : Int) + Sn.szl xs ≤ z) (h2 : z ≤ 1048576) :
    Calls Try.prog 29 #[v, .int .i64 z] w fun e w' => e = .returned (.int .i64 (z - xs.length - Sn.szl xs)) ∧ Below w.heap.size w w' := by
  obtain ⟨a, cap, rfl⟩ := hv.form
  have hz : ¬ z - xs.length < 0 := by omega
  have hl : xs.length ≤ 1048576 := by omega
  have HV := Lib.hid hv
  have HZ := Lib.hid h
  have H2 := Lib.hid h2
  clear hv
  go_enter Try.func29, Try.ntmps29
  go_wp2
  go_loopw [1, 5] (fun x i wr => ∃ (k : Nat) (y : Int), k ≤ xs.length ∧ i = .int .i64 k ∧ x = .int .i64 y ∧ 0 ≤ y ∧ y ≤ 1048576 ∧ Hid (y = z - xs.length - Sn.szl (xs.take k)) ∧ Hid (Below w.heap.size w wr)) (fun _ i _ => xs.length - (intOf i).toNat)
  case atStart => exact ⟨0, _, Nat.zero_le _, rfl, rfl, by omega, by omega, Lib.hid (by simp [Sn.szl_nil]), Lib.hid (Below.refl _ _)⟩
  case round =>
    obtain ⟨k, y, hk, rfl, rfl, y1, y2, hy, hb⟩ := hrel
    by_cases hlt : k < xs.length
    · obtain ⟨b, off, cap1, hn, hbl, hc⟩ := HV.out.at_ hlt
      simp only [Value.slice.injEq] at hn
      obtain ⟨rfl, -, rfl⟩ := hn
      obtain ⟨c0, c1, c2, c3, c4⟩ := (hc k hlt).below hb.out hbl
      have hs := Sn.szl_snoc hlt
      have hs2 := Sn.szl_le xs (k + 1)
      have hyo := hy.out
      have hzo := HZ.out
      have C := Lib.hid (fun W => szStand_in xs[k] W y (by omega) (by omega))
      have hY : Hid (y - Sn.szn xs[k] = z - xs.length - Sn.szl (xs.take (k + 1))) := Lib.hid (by omega)
      have hY0 : 0 ≤ y - (Sn.szn xs[k] : Int) := by omega
      have hYn : ¬ y - (Sn.szn xs[k] : Int) < 0 := by omega
      have hY1 : y - (Sn.szn xs[k] : Int) ≤ 1048576 := by omega
      clear hc hs hs2 hyo hzo hy
      go_wp2_with fail
      refine (C.out _).mono ?_
      rintro e w2 ⟨rfl, b2⟩
      have hb2 := Lib.hid (hb.out.trans (b2.mono hb.out.size))
      clear b2 hb c0 c1 c2 c3 c4 C
      go_wp2_with fail
      exact ⟨⟨k + 1, _, by omega, by go_num, rfl, hY0, hY1, hY, hb2⟩, by simp only [intOf]; omega⟩
    · have hkz : k = xs.length := by omega
      have hN : Hid (y = z - xs.length - Sn.szl xs) := Lib.hid (by have := hy.out; rw [hkz, List.take_length] at this; exact this)
      clear hkz hy
      go_wp2
      go_ret
      exact ⟨ret_int hN.out, hb.out⟩
set_option maxHeartbeats 1600000 in
theorem szStandS_out (w : World) (v : Value) (xs : List Std) (hv : SnSl w v xs) (hbd : ∀ x ∈ xs, Sn.Bd x) (hl : xs.length ≤ maxLen) (z : Int) (h0 : 0 ≤ z) (h : z < (xs.length : Int) + Sn.szl xs) (h2 : z ≤ 1048576) :
    Calls Try.prog 29 #[v, .int .i64 z] w fun e w' => e = .returned (.int .i64 (-1)) ∧ Below w.heap.size w w' := by
  obtain ⟨a, cap, rfl⟩ := hv.form
  unfold maxLen at hl
  by_cases hn : z < (xs.length : Int)
  · have hz : z - xs.length < 0 := by omega
    clear hv h
    go_enter Try.func29, Try.ntmps29
    go_wp2
    go_ret
    exact ⟨rfl, Below.refl _ _⟩
  · have hz : ¬ z - xs.length < 0 := by omega
    have hl : xs.length ≤ 1048576 := by omega
    have HV := Lib.hid hv
    have HZ := Lib.hid h
    have HB := Lib.hid hbd
    clear hv h hn hbd
    go_enter Try.func29, Try.ntmps29
    go_wp2
    go_loopw [1, 5] (fun x i wr => ∃ (k : Nat) (y : Int), k ≤ xs.length ∧ i = .int .i64 k ∧ x = .int .i64 y ∧ 0 ≤ y ∧ y ≤ 1048576 ∧ Hid (y = z - xs.length - Sn.szl (xs.take k)) ∧ Hid (Below w.heap.size w wr)) (fun _ i _ => xs.length - (intOf i).toNat)
    case atStart => exact ⟨0, _, Nat.zero_le _, rfl, rfl, by omega, by omega, Lib.hid (by simp [Sn.szl_nil]), Lib.hid (Below.refl _ _)⟩
    case round =>
      obtain ⟨k, y, hk, rfl, rfl, y1, y2, hy, hb⟩ := hrel
      by_cases hlt : k < xs.length
      · obtain ⟨b, off, cap1, hn, hbl, hc⟩ := HV.out.at_ hlt
        simp only [Value.slice.injEq] at hn
        obtain ⟨rfl, -, rfl⟩ := hn
        obtain ⟨c0, c1, c2, c3, c4⟩ := (hc k hlt).below hb.out hbl
        by_cases hfit : (Sn.szn xs[k] : Int) ≤ y
        · have hs := Sn.szl_snoc hlt
          have hyo := hy.out
          have C := Lib.hid (fun W => szStand_in xs[k] W y (by omega) (by omega))
          have hY : Hid (y - Sn.szn xs[k] = z - xs.length - Sn.szl (xs.take (k + 1))) := Lib.hid (by omega)
          have hY0 : 0 ≤ y - (Sn.szn xs[k] : Int) := by omega
          have hYn : ¬ y - (Sn.szn xs[k] : Int) < 0 := by omega
          have hY1 : y - (Sn.szn xs[k] : Int) ≤ 1048576 := by omega
          clear hc hs hyo hy hfit
          go_wp2_with fail
          refine (C.out _).mono ?_
          rintro e w2 ⟨rfl, b2⟩
          have hb2 := Lib.hid (hb.out.trans (b2.mono hb.out.size))
          clear b2 hb c0 c1 c2 c3 c4 C
          go_wp2_with fail
          exact ⟨⟨k + 1, _, by omega, by go_num, rfl, hY0, hY1, hY, hb2⟩, by simp only [intOf]; omega⟩
        · have C := Lib.hid (fun W => szStand_out xs[k] W y (HB.out _ (List.getElem_mem hlt)) (by omega) (by omega) (by omega))
          clear hc hfit
          go_wp2_with fail
          refine (C.out _).mono ?_
          rintro e w2 ⟨rfl, b2⟩
          have hb2 := Lib.hid (hb.out.trans (b2.mono hb.out.size))
          clear b2 hb c0 c1 c2 c3 c4 C
          go_wp2_with fail
          go_ret
          exact ⟨rfl, hb2.out⟩
      · exfalso
        have hkz : k = xs.length := by omega
        have := hy.out
        rw [hkz, List.take_length] at this
        have := HZ.out
        omega
end Go.Proofs.Ytaldmdammipfjaa

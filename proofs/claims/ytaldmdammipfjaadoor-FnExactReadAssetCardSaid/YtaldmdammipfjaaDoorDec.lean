import Derived.Test.YtaldmdammipfjaaDoorBytes
import Derived.Lib.ItoaNum
namespace Go.Proofs.YtaldmdammipfjaaDoor
open Go.RowKit
set_option linter.unusedVariables false

/-- the digits of a number that is not 0, and none for 0 -/
def dgs (m : Nat) : List UInt8 := if m = 0 then [] else Lib.decDigits m
theorem dgs_step {m : Nat} (h : m ≠ 0) : dgs m = dgs (m / 10) ++ [UInt8.ofNat (48 + m % 10)] := by
  unfold dgs
  rw [if_neg h]
  by_cases h1 : m < 10
  · rw [if_pos (by omega), Lib.decDigits, dif_pos h1, Nat.mod_eq_of_lt h1]; rfl
  · rw [if_neg (by omega), Lib.decDigits, dif_neg h1]
theorem dgs_len (m : Nat) : ∀ k, m < 10 ^ k → (dgs m).length ≤ k := by
  intro k
  induction k generalizing m with
  | zero => intro h; have : m = 0 := by simp at h; omega
            subst this; simp [dgs]
  | succ k ih =>
    intro h
    by_cases hm : m = 0
    · subst hm; simp [dgs]
    · rw [dgs_step hm, List.length_append, List.length_singleton]
      have := ih (m / 10) (by rw [Nat.pow_succ] at h; omega)
      omega


theorem itoa_zero : Lib.itoa 0 = [48] := by unfold Lib.itoa Lib.decDigits; rfl
theorem dgs_bd {n : Int} (h1 : -9223372036854775808 ≤ n) (h2 : n ≤ 9223372036854775807) : (dgs n.natAbs).length ≤ 19 := dgs_len _ 19 (by omega)
/-- a digit's byte -/
def db (m : Int) : UInt8 := UInt8.ofNat (48 + m.natAbs % 10)
theorem db_val (m : Int) : ((db m).toNat : Int) = 48 + ((m.natAbs % 10 : Nat) : Int) := by
  unfold db; rw [UInt8.toNat_ofNat']; omega
theorem tdiv_abs (m : Int) : (m.tdiv 10).natAbs = m.natAbs / 10 := by rw [Int.natAbs_tdiv]; rfl
theorem tmod_abs (m : Int) : (m.tmod 10).natAbs = m.natAbs % 10 := by rw [Int.natAbs_tmod]; rfl

theorem itoa_neg {n : Int} (h : n < 0) : Lib.itoa n = 45 :: dgs n.natAbs := by unfold Lib.itoa dgs; rw [if_pos h, if_neg (by omega)]
theorem itoa_pos {n : Int} (h : 0 < n) : Lib.itoa n = dgs n.natAbs := by
  unfold Lib.itoa dgs; rw [if_neg (by omega), if_neg (by omega)]
  congr 1; omega
/-- what the second loop reads: the k-th byte of the reverse -/
theorem rev_at {L R : List UInt8} (hR : R = L.reverse) {k : Nat} (hk : k < R.length) : ∃ c : UInt8, L[R.length - 1 - k]? = some c ∧ R.take (k + 1) = R.take k ++ [c] := by
  refine ⟨R[k], ?_, by rw [List.take_succ_eq_append_getElem hk]⟩
  subst hR
  rw [List.getElem_reverse]
  simp only [List.length_reverse] at hk ⊢
  rw [List.getElem?_eq_getElem (by omega)]

set_option maxHeartbeats 3200000 in
set_option maxRecDepth 100000 in
theorem l01Dec_any (n : Int) (w : World) (h1 : -9223372036854775808 ≤ n) (h2 : n ≤ 9223372036854775807) :
    Calls Tryd.prog 89 #[.int .i64 n] w fun e w' => e = .returned (.string ⟨(Lib.itoa n).toArray⟩) ∧ Below w.heap.size w w' := by
  obtain ⟨i0, hi, hz0, hz1, hz2⟩ := info_parts info_u8
  by_cases h0 : n = 0
  · subst h0
    go_enter Tryd.func89, Tryd.ntmps89
    go_wp2_with fail
    go_ret
    exact ⟨by rw [itoa_zero]; rfl, Below.refl _ _⟩
  · have hn0 : (n == 0) = false := by simp; omega
    have hlen := dgs_bd h1 h2
    go_enter Tryd.func89, Tryd.ntmps89
    go_wp2_with fail
    go_loopw [3, 4] (fun v x wr => ∃ (m : Int) (l : List UInt8), x = .int .i64 m ∧ -9223372036854775808 ≤ m ∧ m ≤ 9223372036854775807 ∧ Hid (dgs m.natAbs ++ l.reverse = dgs n.natAbs) ∧ Hid (Buf w.heap.size w wr v l)) (fun _ x _ => (intOf x).natAbs)
    case atStart => exact ⟨n, [], rfl, h1, h2, Lib.hid (by simp), Lib.hid ⟨World.ownsRow_lit _ _ _ (Nat.le_refl _) (by decide) (by decide), (Below.refl _ _).alloc (Nat.le_refl _) _⟩⟩
    case round =>
      obtain ⟨m, l, rfl, b1, b2, hd, hbuf⟩ := hrel
      by_cases hm : m = 0
      · have hm0 : (m != 0) = false := by simp [hm]
        subst hm
        have hl0 : Hid (l.reverse = dgs n.natAbs) := Lib.hid (by have := hd.out; simpa [dgs] using this)
        have hll : l.length ≤ 19 := by have := congrArg List.length hl0.out; simp at this; omega
        have hB : w.heap.size ≤ wr.heap.size := hbuf.out.2.size
        clear hd hm0 hlen
        by_cases hneg : n < 0
        · have hitoa : Hid ((l ++ [45]).reverse = Lib.itoa n) := Lib.hid (by rw [itoa_neg hneg, ← hl0.out]; simp)
          go_wp2_with (at_builtin; refine wpList_append_own _ rfl _ _ 124 rfl w.heap.size 5 i0 (.int .u8 0) 1 1 Tryd.underlying124 hi hz0 hz1 hz2 rfl (by decide) _ _ _ rfl (hbuf.out.1.alloc _) ⟨wr.heap.size, 0, none⟩ 1 1 [.int .u8 45] rfl rfl (one_new _ _ _) (one_cell _ _) ?c3 ?c4 ?c5 ?_)
          case c3 => unfold maxLen; omega
          case c4 => omega
          case c5 => first | omega | (simp; omega)
          intro v' w1 hown' hgrow _
          have HB : Hid (Buf w.heap.size w w1 v' (l ++ [45])) := Lib.hid (Buf.app hbuf.out hB hown' hgrow)
          clear hown' hgrow hbuf
          have hLl : (l ++ [45]).length ≤ 20 := by simp; omega
          have hL1 : 1 ≤ (l ++ [45]).length := by simp
          generalize (l ++ [45] : List UInt8) = L at *
          obtain ⟨g, cap, rfl⟩ := Go.Joins.ownsRow_form HB.out.1 (by omega)
          have hgl : g < w1.heap.size := (HB.out.1.lt g rfl).2
          have HC : Hid (∀ (j : Nat) (c : UInt8), L[j]? = some c → w1.cell? ⟨g, j, none⟩ = some (.int .u8 (c.toNat : Int))) := Lib.hid (fun j c hj => buf_cell HB.out.1 j c hj)
          have hBs : w.heap.size ≤ w1.heap.size := HB.out.2.size
          have HBel := Lib.hid HB.out.2
          clear HB
          obtain ⟨R, hR⟩ : ∃ R : List UInt8, R = L.reverse := ⟨_, rfl⟩
          have hRl : L.length = R.length := by rw [hR]; simp
          rw [← hR] at hitoa
          have HR := Lib.hid hR
          rw [hRl] at hLl hL1 ⊢
          clear hR hRl
          go_wp2_with fail
          go_loopw [6, 7] (fun ov iv wr2 => ∃ (k : Nat) (z : Int), k ≤ R.length ∧ iv = .int .i64 z ∧ z + 1 + k ≤ R.length ∧ R.length ≤ z + 1 + k ∧ Hid (Buf w1.heap.size w1 wr2 ov (R.take k))) (fun _ iv _ => (intOf iv + 1).toNat)
          case atStart => exact ⟨0, (R.length : Int) - 1, Nat.zero_le _, rfl, by omega, by omega, Lib.hid ⟨World.ownsRow_lit _ _ _ (Nat.le_refl _) (by decide) (by decide), (Below.refl _ _).alloc (Nat.le_refl _) _⟩⟩
          case round =>
            obtain ⟨k, z, hk, rfl, z1, z2, hb2⟩ := hrel
            by_cases hkl : k < R.length
            · obtain ⟨c, hc1, hc2⟩ := rev_at HR.out hkl
              have hz : 0 ≤ z := by omega
              obtain ⟨j, rfl⟩ := Int.eq_ofNat_of_zero_le hz
              have hj : R.length - 1 - k = j := by omega
              rw [hj] at hc1
              have hcell : wr.cell? ⟨g, j, none⟩ = some (.int .u8 (c.toNat : Int)) := (hb2.out.2.cell (p := ⟨g, j, none⟩) hgl).trans (HC.out j c hc1)
              have HC2 := Lib.hid hc2
              have hB2 : w1.heap.size ≤ wr.heap.size := hb2.out.2.size
              clear hc1 hc2 hj
              have hjR : j < R.length := by omega
              go_wp2_with (at_builtin; refine wpList_append_own _ rfl _ _ 124 rfl w1.heap.size 5 i0 (.int .u8 0) 1 1 Tryd.underlying124 hi hz0 hz1 hz2 rfl (by decide) _ _ _ rfl (hb2.out.1.alloc _) ⟨wr.heap.size, 0, none⟩ 1 1 [.int .u8 (c.toNat : Int)] rfl rfl (one_new _ _ _) (one_cell _ _) ?c3 ?c4 ?c5 ?_)
              case c3 => unfold maxLen; simp; omega
              case c4 => simp; omega
              case c5 => first | omega | (simp; omega)
              intro v' w2 hown' hgrow _
              have hbn : Hid (Buf w1.heap.size w1 w2 v' (R.take (k + 1))) := Lib.hid (by rw [HC2.out]; exact Buf.app hb2.out hB2 (by rw [show (R.take k).length = k from by simp; omega]; exact hown') hgrow)
              clear hown' hgrow hb2
              go_wp2
              exact ⟨⟨k + 1, (j : Int) - 1, by omega, rfl, by omega, by omega, hbn⟩, by simp only [intOf]; omega⟩
            · have hkR : k = R.length := by omega
              have hz : z < 0 := by omega
              have hb3 : Buf w1.heap.size w1 wr u6 R := by have := hb2.out; rwa [hkR, List.take_length] at this
              obtain ⟨g2, cap2, rfl⟩ := Go.Joins.ownsRow_form hb3.1 (by omega)
              have hcv := buf_string hb3.1
              have hbel := Lib.hid hb3.2
              clear hb2 hb3 hkR
              go_wp2
              go_ret
              exact ⟨by rw [hitoa.out]; rfl, HBel.out.trans (hbel.out.mono hBs)⟩
        · have hpos : 0 < n := by omega
          have hitoa : Hid (l.reverse = Lib.itoa n) := Lib.hid (by rw [itoa_pos hpos, ← hl0.out])
          have hL1 : 1 ≤ l.length := by
            have := congrArg List.length hl0.out
            rw [dgs_step (m := n.natAbs) (by omega)] at this
            simp at this; omega
          have HB : Hid (Buf w.heap.size w wr u3 l) := hbuf
          have hLl : l.length ≤ 20 := by omega
          clear hbuf hl0 hll hneg
          obtain ⟨w1, rfl⟩ : ∃ x : World, x = wr := ⟨_, rfl⟩
          obtain ⟨L, rfl⟩ : ∃ x : List UInt8, x = l := ⟨_, rfl⟩
          obtain ⟨g, cap, rfl⟩ := Go.Joins.ownsRow_form HB.out.1 (by omega)
          have hgl : g < w1.heap.size := (HB.out.1.lt g rfl).2
          have HC : Hid (∀ (j : Nat) (c : UInt8), L[j]? = some c → w1.cell? ⟨g, j, none⟩ = some (.int .u8 (c.toNat : Int))) := Lib.hid (fun j c hj => buf_cell HB.out.1 j c hj)
          have hBs : w.heap.size ≤ w1.heap.size := HB.out.2.size
          have HBel := Lib.hid HB.out.2
          clear HB
          obtain ⟨R, hR⟩ : ∃ R : List UInt8, R = L.reverse := ⟨_, rfl⟩
          have hRl : L.length = R.length := by rw [hR]; simp
          rw [← hR] at hitoa
          have HR := Lib.hid hR
          rw [hRl] at hLl hL1 ⊢
          clear hR hRl
          go_wp2_with fail
          go_loopw [6, 7] (fun ov iv wr2 => ∃ (k : Nat) (z : Int), k ≤ R.length ∧ iv = .int .i64 z ∧ z + 1 + k ≤ R.length ∧ R.length ≤ z + 1 + k ∧ Hid (Buf w1.heap.size w1 wr2 ov (R.take k))) (fun _ iv _ => (intOf iv + 1).toNat)
          case atStart => exact ⟨0, (R.length : Int) - 1, Nat.zero_le _, rfl, by omega, by omega, Lib.hid ⟨World.ownsRow_lit _ _ _ (Nat.le_refl _) (by decide) (by decide), (Below.refl _ _).alloc (Nat.le_refl _) _⟩⟩
          case round =>
            obtain ⟨k, z, hk, rfl, z1, z2, hb2⟩ := hrel
            by_cases hkl : k < R.length
            · obtain ⟨c, hc1, hc2⟩ := rev_at HR.out hkl
              have hz : 0 ≤ z := by omega
              obtain ⟨j, rfl⟩ := Int.eq_ofNat_of_zero_le hz
              have hj : R.length - 1 - k = j := by omega
              rw [hj] at hc1
              have hcell : wr.cell? ⟨g, j, none⟩ = some (.int .u8 (c.toNat : Int)) := (hb2.out.2.cell (p := ⟨g, j, none⟩) hgl).trans (HC.out j c hc1)
              have HC2 := Lib.hid hc2
              have hB2 : w1.heap.size ≤ wr.heap.size := hb2.out.2.size
              clear hc1 hc2 hj
              have hjR : j < R.length := by omega
              go_wp2_with (at_builtin; refine wpList_append_own _ rfl _ _ 124 rfl w1.heap.size 5 i0 (.int .u8 0) 1 1 Tryd.underlying124 hi hz0 hz1 hz2 rfl (by decide) _ _ _ rfl (hb2.out.1.alloc _) ⟨wr.heap.size, 0, none⟩ 1 1 [.int .u8 (c.toNat : Int)] rfl rfl (one_new _ _ _) (one_cell _ _) ?c3 ?c4 ?c5 ?_)
              case c3 => unfold maxLen; simp; omega
              case c4 => simp; omega
              case c5 => first | omega | (simp; omega)
              intro v' w2 hown' hgrow _
              have hbn : Hid (Buf w1.heap.size w1 w2 v' (R.take (k + 1))) := Lib.hid (by rw [HC2.out]; exact Buf.app hb2.out hB2 (by rw [show (R.take k).length = k from by simp; omega]; exact hown') hgrow)
              clear hown' hgrow hb2
              go_wp2
              exact ⟨⟨k + 1, (j : Int) - 1, by omega, rfl, by omega, by omega, hbn⟩, by simp only [intOf]; omega⟩
            · have hkR : k = R.length := by omega
              have hz : z < 0 := by omega
              have hb3 : Buf w1.heap.size w1 wr u6 R := by have := hb2.out; rwa [hkR, List.take_length] at this
              obtain ⟨g2, cap2, rfl⟩ := Go.Joins.ownsRow_form hb3.1 (by omega)
              have hcv := buf_string hb3.1
              have hbel := Lib.hid hb3.2
              clear hb2 hb3 hkR
              go_wp2
              go_ret
              exact ⟨by rw [hitoa.out]; rfl, HBel.out.trans (hbel.out.mono hBs)⟩
      · have hm0 : (m != 0) = true := by simpa using hm
        have hll : l.length ≤ 18 := by
          have := congrArg List.length hd.out
          rw [dgs_step (m := m.natAbs) (by omega)] at this
          simp at this; omega
        have hB : w.heap.size ≤ wr.heap.size := hbuf.out.2.size
        have hstep : Hid (dgs (m.tdiv 10).natAbs ++ (l ++ [db m]).reverse = dgs n.natAbs) := Lib.hid (by
          rw [tdiv_abs, List.reverse_append, ← hd.out, dgs_step (m := m.natAbs) (by omega)]; simp [db])
        have hms : (m.tdiv 10).natAbs < m.natAbs := by rw [tdiv_abs]; omega
        have hv := db_val m
        have ta := tmod_abs m
        have qa := tdiv_abs m
        generalize hc : db m = c at *
        obtain ⟨q, hq⟩ : ∃ q, m.tdiv 10 = q := ⟨_, rfl⟩
        obtain ⟨t, ht⟩ : ∃ t, m.tmod 10 = t := ⟨_, rfl⟩
        rw [hq] at hstep hms qa
        rw [ht] at ta
        have q1 : -922337203685477581 ≤ q := by omega
        have q2 : q ≤ 922337203685477581 := by omega
        obtain ⟨x, hx⟩ : ∃ x : Int, x = (c.toNat : Int) := ⟨_, rfl⟩
        have HX := Lib.hid hx
        by_cases hneg : t < 0
        · have he : 48 + -t = x := by omega
          have hx1 : 0 ≤ x := by omega
          have hx2 : x ≤ 57 := by omega
          have t1 : -9 ≤ t := by omega
          have t2 : t ≤ 9 := by omega
          have HQ := Lib.hid hms
          clear hx hv ta hm hc hms qa
          go_wp2_with (at_builtin; refine wpList_append_own _ rfl _ _ 124 rfl w.heap.size 5 i0 (.int .u8 0) 1 1 Tryd.underlying124 hi hz0 hz1 hz2 rfl (by decide) _ _ _ rfl (hbuf.out.1.alloc _) ⟨wr.heap.size, 0, none⟩ 1 1 [.int .u8 x] rfl rfl (one_new _ _ _) (one_cell _ _) ?c3 ?c4 ?c5 ?_)
          case c3 => unfold maxLen; omega
          case c4 => omega
          case c5 => first | omega | (simp; omega)
          intro v' w1 hown' hgrow _
          have hbn : Hid (Buf w.heap.size w w1 v' (l ++ [c])) := Lib.hid (Buf.app hbuf.out hB (by rw [HX.out] at hown'; exact hown') hgrow)
          clear hown' hgrow hbuf
          go_wp2
          exact ⟨⟨q, l ++ [c], rfl, by omega, by omega, hstep, hbn⟩, by first | exact HQ.out | (simp only [intOf]; exact HQ.out)⟩
        · have he : 48 + t = x := by omega
          have hx1 : 0 ≤ x := by omega
          have hx2 : x ≤ 57 := by omega
          have t1 : -9 ≤ t := by omega
          have t2 : t ≤ 9 := by omega
          have HQ := Lib.hid hms
          clear hx hv ta hm hc hms qa
          go_wp2_with (at_builtin; refine wpList_append_own _ rfl _ _ 124 rfl w.heap.size 5 i0 (.int .u8 0) 1 1 Tryd.underlying124 hi hz0 hz1 hz2 rfl (by decide) _ _ _ rfl (hbuf.out.1.alloc _) ⟨wr.heap.size, 0, none⟩ 1 1 [.int .u8 x] rfl rfl (one_new _ _ _) (one_cell _ _) ?c3 ?c4 ?c5 ?_)
          case c3 => unfold maxLen; omega
          case c4 => omega
          case c5 => first | omega | (simp; omega)
          intro v' w1 hown' hgrow _
          have hbn : Hid (Buf w.heap.size w w1 v' (l ++ [c])) := Lib.hid (Buf.app hbuf.out hB (by rw [HX.out] at hown'; exact hown') hgrow)
          clear hown' hgrow hbuf
          go_wp2
          exact ⟨⟨q, l ++ [c], rfl, by omega, by omega, hstep, hbn⟩, by first | exact HQ.out | (simp only [intOf]; exact HQ.out)⟩
end Go.Proofs.YtaldmdammipfjaaDoor

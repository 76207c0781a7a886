/-
  Rows of numbers are marked, and looked at: the forms that the laws' walks take. No condition of its own.
-/
import Derived.Test.YtmidihmbehaegaaDoorGen
import Derived.Laws.MakeOwn
namespace Go.Proofs.YtmidihmbehaegaaDoor
open Go.RowKit
set_option linter.unusedVariables false
set_option maxRecDepth 100000

theorem Own.belowAll {B : Nat} {w w1 : World} {v : Value} {zs : List Int} (h : Own B w v zs) (hb : Below w.heap.size w w1) : Own B w1 v zs := own_belowAll h hb
theorem Own.far {B x : Nat} {w w1 : World} {v : Value} {zs : List Int} (h : Own B w v zs) (hg : w.grownBy w1 (some x)) (hx : x < B) : Own B w1 v zs := own_far h hg hx
theorem markInt64S_res (B : Nat) (w : World) (v : Value) (n : Nat) (l : List Int) (k0 : Int) (h0 : 1 ≤ k0) (h1 : k0 ≤ 1000000000) (ho : w.ownsRow B 2 1 v n (iv l)) (hl : n ≤ 1048576) (hB : B ≤ w.heap.size) :
    Calls Tryd.prog 20 #[v, .int .i64 k0] w fun e w' => e = .returned (.int .i64 (k0 + n)) ∧ w'.ownsRow B 2 1 v n (iv (upTo k0 n)) ∧ Below B w w' := by
  have hn : n = l.length := by have := ho.1; rw [iv_length] at this; omega
  subst hn
  refine (markInt64S_any B w v l k0 h0 h1 ho hl).mono fun _ _ ⟨he, ho', hb⟩ => ⟨he, ?_, hb⟩
  unfold Own at ho'; rwa [upTo_length] at ho'
theorem heldInt64S_own (B : Nat) (w : World) (v : Value) (n : Nat) (k0 : Int) (h0 : 1 ≤ k0) (h1 : k0 ≤ 1000000000) (hl : n ≤ 1048576) (ho : w.ownsRow B 2 1 v n (iv (upTo k0 n))) :
    Calls Tryd.prog 23 #[v, .int .i64 k0] w fun e w' => e = .returned (.int .i64 (k0 + n)) ∧ Below w.heap.size w w' :=
  heldInt64S_any w v n k0 h0 h1 (Own.sl (B := B) (by unfold Own; rw [upTo_length]; exact ho)) hl
set_option maxHeartbeats 1600000 in
theorem toInt64S_at (w : World) (v : Value) (zs : List Int) (hv : Sl w v zs) (hl : zs.length ≤ 1048576) :
    Calls Tryd.prog 17 #[v] w fun e w' => e = .returned (.slice (some ⟨w.heap.size, 0, none⟩) zs.length zs.length) ∧ Own w.heap.size w' (.slice (some ⟨w.heap.size, 0, none⟩) zs.length zs.length) zs ∧ Below w.heap.size w w' := by
  obtain ⟨i0, hi, hz0, hz1, hz2⟩ := info_parts info_i64
  obtain ⟨a, cap, rfl⟩ := hv.form
  have HV := Lib.hid hv
  clear hv
  go_enter Tryd.func17, Tryd.ntmps17
  go_wp2_with (at_make; refine wpList_make_full _ rfl _ _ 22 rfl w.heap.size 2 i0 (.int .i64 0) 1 Tryd.underlying22 hi hz0 hz1 .i64 .i64 _ _ zs.length rfl rfl rfl rfl ?c1 ?c2 ?c3 ?_)
  case c1 => rw [hz2]; omega
  case c2 => unfold maxLen; omega
  case c3 => exact Nat.le_refl _
  intro w1 hown hg
  have hbel : Below w.heap.size w w1 := (Below.refl _ w).grown hg (Nat.le_refl _) (fun k hk => by cases hk)
  have HO : Hid (∃ xs : List Value, w1.ownsRow w.heap.size 2 1 (.slice (some ⟨w.heap.size, 0, none⟩) zs.length zs.length) zs.length xs ∧ xs.take 0 = iv (zs.take 0)) := Lib.hid ⟨_, hown, by simp [iv]⟩
  have HB := Lib.hid hbel
  clear hown hg hbel
  go_wp2
  go_loopw [4] (fun i wr => ∃ k : Nat, k ≤ zs.length ∧ i = .int .i64 k ∧ Hid (Below w.heap.size w wr) ∧ Hid (∃ xs : List Value, wr.ownsRow w.heap.size 2 1 (.slice (some ⟨w.heap.size, 0, none⟩) zs.length zs.length) zs.length xs ∧ xs.take k = iv (zs.take k))) (fun i _ => zs.length - (intOf i).toNat)
  case atStart => exact ⟨0, Nat.zero_le _, rfl, HB, HO⟩
  case round =>
    obtain ⟨k, hk, rfl, hb, hx⟩ := hrel
    by_cases hlt : k < zs.length
    · obtain ⟨xs, hown, htk⟩ := hx.out
      have hxl : k < xs.length := by have := hown.1; omega
      have c2 : wr.cell? ⟨w.heap.size, k, none⟩ = some xs[k] := (hown.cellAt k (by omega)).trans (List.getElem?_eq_getElem hxl)
      have f2 := hown.frozenAt k
      have HS := Lib.hid (hown.stored k (.int .i64 zs[k]))
      have HT := Lib.hid (set_take (u := .int .i64 zs[k]) hxl htk)
      rcases HV.out with ⟨hz, -⟩ | ⟨b, off, cap', hn, hbl, hc⟩
      · rw [hz] at hlt; simp at hlt
      · simp only [Value.slice.injEq] at hn
        obtain ⟨rfl, -, rfl⟩ := hn
        have c1 : wr.cell? ⟨b, off + k, none⟩ = some (.int .i64 zs[k]) := (hb.out.cell (p := ⟨b, off + k, none⟩) hbl).trans (hc k zs[k] (List.getElem?_eq_getElem hlt))
        have hlb : w.heap.size ≤ wr.heap.size := hb.out.size
        have hnb : Hid (Below w.heap.size w (wr.setCell ⟨w.heap.size, k, none⟩ (.int .i64 zs[k]))) := Lib.hid (hb.out.setCell (Nat.le_refl _) _)
        have HN : Hid (∃ ys : List Value, (wr.setCell ⟨w.heap.size, k, none⟩ (.int .i64 zs[k])).ownsRow w.heap.size 2 1 (.slice (some ⟨w.heap.size, 0, none⟩) zs.length zs.length) zs.length ys ∧ ys.take (k + 1) = iv (zs.take (k + 1))) := Lib.hid ⟨_, HS.out.1, by rw [HT.out, iv_snoc hlt]⟩
        clear hx hown htk hc hb
        generalize xs[k] = old at *
        go_wp2
        exact ⟨⟨k + 1, by omega, by go_num, hnb, HN⟩, by simp only [intOf]; omega⟩
    · have hkz : k = zs.length := by omega
      subst hkz
      go_wp2
      go_ret
      refine ⟨rfl, ?_, hb.out⟩
      obtain ⟨xs, hown, htk⟩ := hx.out
      have : xs = iv zs := by
        have h1 := hown.1
        rw [List.take_of_length_le (by omega), List.take_length] at htk
        exact htk
      rw [this] at hown
      exact hown
set_option maxHeartbeats 1600000 in
theorem markInt64S_own (B : Nat) (w : World) (g n cap : Nat) (zs : List Value) (k0 : Int) (h0 : 1 ≤ k0) (h1 : k0 ≤ 1000000000) (ho : w.ownsRow B 2 1 (.slice (some ⟨g, 0, none⟩) n cap) n zs) (hl : n ≤ 1048576) :
    Calls Tryd.prog 20 #[.slice (some ⟨g, 0, none⟩) n cap, .int .i64 k0] w fun e w' => e = .returned (.int .i64 (k0 + (n : Int))) ∧ w'.ownsRow B 2 1 (.slice (some ⟨g, 0, none⟩) n cap) n (iv (upTo k0 n)) ∧ w.grownBy w' (some g) := by
  have HO : Hid (∃ xs : List Value, w.ownsRow B 2 1 (.slice (some ⟨g, 0, none⟩) n cap) n xs ∧ xs.take 0 = iv (upTo k0 0)) := Lib.hid ⟨_, ho, rfl⟩
  clear ho
  go_enter Tryd.func20, Tryd.ntmps20
  go_wp2
  go_loopw [1, 5] (fun x i wr => ∃ k : Nat, k ≤ n ∧ i = .int .i64 k ∧ x = .int .i64 (k0 + k) ∧ Hid (w.grownBy wr (some g)) ∧ Hid (∃ xs : List Value, wr.ownsRow B 2 1 (.slice (some ⟨g, 0, none⟩) n cap) n xs ∧ xs.take k = iv (upTo k0 k))) (fun _ i _ => n - (intOf i).toNat)
  case atStart => exact ⟨0, Nat.zero_le _, rfl, by simp, Lib.hid (World.grownBy.refl _ _), HO⟩
  case round =>
    obtain ⟨k, hk, rfl, rfl, hb, hx⟩ := hrel
    by_cases hlt : k < n
    · obtain ⟨xs, hown, htk⟩ := hx.out
      have hxl : k < xs.length := by have := hown.1; omega
      have c2 : wr.cell? ⟨g, k, none⟩ = some xs[k] := (hown.cellAt k (by omega)).trans (List.getElem?_eq_getElem hxl)
      have f2 := hown.frozenAt k
      have HN : Hid (∃ ys : List Value, (wr.setCell ⟨g, k, none⟩ (.int .i64 (k0 + k))).ownsRow B 2 1 (.slice (some ⟨g, 0, none⟩) n cap) n ys ∧ ys.take (k + 1) = iv (upTo k0 (k + 1))) :=
        Lib.hid ⟨_, (hown.stored k (.int .i64 (k0 + k))).1, by rw [set_take hxl htk, upTo_snoc]; unfold iv; rw [List.map_append]; rfl⟩
      have hnb : Hid (w.grownBy (wr.setCell ⟨g, k, none⟩ (.int .i64 (k0 + k))) (some g)) := Lib.hid (only_setCell (p := ⟨g, k, none⟩) hb.out rfl _)
      clear hx hown htk hb
      generalize xs[k] = old at *
      go_wp2
      exact ⟨⟨k + 1, by omega, by go_num, by go_num, hnb, HN⟩, by simp only [intOf]; omega⟩
    · have hkz : k = n := by omega
      subst hkz
      go_wp2
      go_ret
      obtain ⟨xs, hown, htk⟩ := hx.out
      have hxl := hown.1
      rw [List.take_of_length_le (by omega)] at htk
      rw [htk] at hown
      exact ⟨rfl, hown, hb.out⟩
end Go.Proofs.YtmidihmbehaegaaDoor

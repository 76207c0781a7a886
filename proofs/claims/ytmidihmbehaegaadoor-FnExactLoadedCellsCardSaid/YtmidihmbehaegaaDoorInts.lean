import Derived.Test.YtmidihmbehaegaaDoorNum
import Derived.Laws.AppendOwn
import Derived.Laws.OwnMore
import Derived.Laws.MakeOwn
import Derived.OwnWalk
import Derived.Lib.SmallJoins
import Derived.Deep.QuietTactic
import Derived.BigQuiet
import Derived.WalkSmall
import Derived.ProofKit
import Derived.OpenShut
namespace Go.Proofs.YtmidihmbehaegaaDoor
open Go.RowKit
set_option linter.unusedVariables false

/-- slice value v reads in world w as these numbers -/
def Sl (w : World) (v : Value) (zs : List Int) : Prop :=
  (zs = [] ∧ ∃ a cap, v = .slice a 0 cap) ∨ ∃ b off cap, v = .slice (some ⟨b, off, none⟩) zs.length cap ∧ b < w.heap.size ∧ ∀ j x, zs[j]? = some x → w.cell? ⟨b, off + j, none⟩ = some (.int .i64 x)
theorem Sl.below {w w1 : World} {v : Value} {zs : List Int} (h : Sl w v zs) (hb : Below w.heap.size w w1) : Sl w1 v zs := by
  rcases h with h | ⟨b, off, cap, rfl, hlt, hc⟩
  · exact Or.inl h
  · exact Or.inr ⟨b, off, cap, rfl, Nat.lt_of_lt_of_le hlt hb.size, fun j x hx => (hb.cell (p := ⟨b, off + j, none⟩) hlt).trans (hc j x hx)⟩
theorem Sl.drewN {w : World} {v : Value} {zs : List Int} (h : Sl w v zs) (n : Nat) : Sl (w.drewN n) v zs := by
  rcases h with h | ⟨b, off, cap, rfl, hlt, hc⟩
  · exact Or.inl h
  · exact Or.inr ⟨b, off, cap, rfl, by simpa using hlt, fun j x hx => by simpa using hc j x hx⟩

theorem Sl.nil_of {w : World} {v : Value} {zs : List Int} (h : Sl w v zs) (hz : zs.length = 0) : ∃ a cap, v = .slice a 0 cap := by
  rcases h with ⟨_, a, cap, rfl⟩ | ⟨b, off, cap, rfl, _⟩
  · exact ⟨_, _, rfl⟩
  · rw [hz]; exact ⟨_, _, rfl⟩
theorem Sl.form {w : World} {v : Value} {zs : List Int} (h : Sl w v zs) : ∃ a cap, v = .slice a zs.length cap := by
  rcases h with ⟨rfl, a, cap, rfl⟩ | ⟨b, off, cap, rfl, _⟩ <;> exact ⟨_, _, rfl⟩
theorem eq_of_take {zs ys : List Int} (hl : zs.length = ys.length) (h : zs.take zs.length = ys.take zs.length) : (zs == ys) = true := by
  rw [List.take_length, hl, List.take_length] at h; rw [h]; exact beq_self_eq_true _
theorem ne_of_at {zs ys : List Int} {k : Nat} (h1 : k < zs.length) (h2 : k < ys.length) (h : zs[k] ≠ ys[k]) : (zs == ys) = false := by
  rw [beq_eq_false_iff_ne]; intro e; subst e; exact h rfl
theorem take_eq {zs ys : List Int} {k : Nat} (h1 : k < zs.length) (h2 : k < ys.length) (hp : zs.take k = ys.take k) (h : zs[k] = ys[k]) : zs.take (k + 1) = ys.take (k + 1) := by
  rw [List.take_succ_eq_append_getElem h1, List.take_succ_eq_append_getElem h2, hp, h]

set_option maxHeartbeats 1600000 in
theorem eqInt64S_any (w : World) (v u : Value) (zs ys : List Int) (hv : Sl w v zs) (hu : Sl w u ys) (hl : zs.length ≤ 1048576) (hl2 : ys.length ≤ 1048576) :
    Calls Tryd.prog 19 #[v, u] w fun e w' => e = .returned (.bool (zs == ys)) ∧ Below w.heap.size w w' := by
  by_cases hlen : zs.length = ys.length
  · by_cases hz : zs.length = 0
    · obtain ⟨a, cap, rfl⟩ := hv.nil_of hz
      obtain ⟨a', cap', rfl⟩ := hu.nil_of (by omega)
      have he : Hid ((zs == ys) = true) := Lib.hid (by rw [List.eq_nil_of_length_eq_zero hz, List.eq_nil_of_length_eq_zero (show ys.length = 0 by omega)]; rfl)
      clear hz hlen
      go_enter Tryd.func19, Tryd.ntmps19
      go_wp2
      refine wp_loop_rounds 1 ?_
      rw [rounds_succ]
      go_wp2
      go_ret
      exact ⟨ret_bool he.out.symm, Below.refl _ _⟩
    · rcases hv with ⟨rfl, -⟩ | ⟨b, off, cap, rfl, hlt, hc⟩
      · exact absurd rfl hz
      · rcases hu with ⟨rfl, -⟩ | ⟨b', off', cap', rfl, hlt', hc'⟩
        · exact absurd hlen hz
        · have hll : ((zs.length : Int) != (ys.length : Int)) = false := by simp; omega
          have hle : zs.length ≤ ys.length := by omega
          have HL := Lib.hid hlen
          have HC := Lib.hid hc
          have HC' := Lib.hid hc'
          clear hlen hc hc' hz
          go_enter Tryd.func19, Tryd.ntmps19
          go_wp2
          go_loopw [5] (fun i wr => ∃ k : Nat, k ≤ zs.length ∧ i = .int .i64 k ∧ (∃ n, wr = w.drewN n) ∧ Hid (zs.take k = ys.take k)) (fun i _ => zs.length - (intOf i).toNat)
          case atStart => exact ⟨0, Nat.zero_le _, rfl, ⟨0, rfl⟩, Lib.hid rfl⟩
          case round =>
            obtain ⟨k, hk, rfl, ⟨n, rfl⟩, hp⟩ := hrel
            by_cases hlt2 : k < zs.length
            · have hlt3 : k < ys.length := by omega
              have c1 := HC.out k zs[k] (List.getElem?_eq_getElem hlt2)
              have c2 := HC'.out k ys[k] (List.getElem?_eq_getElem hlt3)
              by_cases he : zs[k] = ys[k]
              · have hx : (zs[k] != ys[k]) = false := by rw [he]; exact bne_self_eq_false' _
                have hn := Lib.hid (take_eq hlt2 hlt3 hp.out he)
                clear he
                go_wp2
                go_quiet (fail)
                go_wp2
                exact ⟨⟨k + 1, by omega, by go_num, ⟨_, rfl⟩, hn⟩, by simp only [intOf]; omega⟩
              · have hx : (zs[k] != ys[k]) = true := by rw [bne_iff_ne]; exact he
                have hn := Lib.hid (ne_of_at hlt2 hlt3 he)
                clear he
                go_wp2
                go_quiet (fail)
                go_wp2
                go_ret
                exact ⟨ret_bool hn.out.symm, below_drewN (below_drewN (Below.refl _ _) _) _⟩
            · have hkz : k = zs.length := by omega
              have hn : Hid ((zs == ys) = true) := Lib.hid (eq_of_take HL.out (by rw [← hkz]; exact hp.out))
              clear hkz
              go_wp2
              go_ret
              exact ⟨ret_bool hn.out.symm, below_drewN (Below.refl _ _) _⟩
  · obtain ⟨a, cap, rfl⟩ := hv.form
    obtain ⟨a', cap', rfl⟩ := hu.form
    have hll : ((zs.length : Int) != (ys.length : Int)) = true := by rw [bne_iff_ne]; omega
    have hn : Hid ((zs == ys) = false) := Lib.hid (by rw [beq_eq_false_iff_ne]; intro e; exact hlen (by rw [e]))
    clear hlen
    go_enter Tryd.func19, Tryd.ntmps19
    go_wp2
    go_ret
    exact ⟨ret_bool hn.out.symm, Below.refl _ _⟩

/-- a slice of numbers that came in reads as its elements -/
theorem Sl.of_row {w : World} {a : Option Addr} {len cap : Nat} {zs : List Int}
    (h : (a = none ∧ len = 0 ∧ cap = 0 ∧ zs = []) ∨ ∃ x, a = some x ∧ len ≤ cap ∧ cap ≤ maxLen ∧ zs.length = cap ∧ (∀ i, i < zs.length → w.cell? (x.add i) = some (.int .i64 (zs.getD i 0))) ∧ ∀ n ∈ zs, (Lit.int .i64 n).wf = true) :
    Sl w (.slice a len cap) (zs.take len) ∧ (zs.take len).length = len := by
  rcases h with ⟨rfl, rfl, rfl, rfl⟩ | ⟨x, rfl, hl, hm, hz, hc, hw⟩
  · exact ⟨Or.inl ⟨rfl, _, _, rfl⟩, rfl⟩
  · have hln : (zs.take len).length = len := by rw [List.length_take]; omega
    refine ⟨?_, hln⟩
    rcases Nat.eq_zero_or_pos len with h0 | h0
    · subst h0; exact Or.inl ⟨rfl, _, _, rfl⟩
    · obtain ⟨b, off, rfl, hc'⟩ := ints_at hc (by omega)
      have c0 := hc' 0 (by omega)
      refine Or.inr ⟨b, off, cap, by rw [hln], ?_, fun j y hy => ?_⟩
      · exact World.block_lt_of_cell? w _ c0
      · have hj : j < (zs.take len).length := (List.getElem?_eq_some_iff.1 hy).1
        have e := List.getElem?_take_of_lt (l := zs) (i := j) (j := len) (by omega)
        rw [e] at hy
        rw [hc' j (by omega), List.getD_eq_getElem?_getD, hy]
        rfl
theorem bt {w w1 w2 : World} (h1 : Below w.heap.size w w1) (h2 : Below w1.heap.size w1 w2) : Below w.heap.size w w2 := h1.trans (h2.mono h1.size)
/-- numbers as cells -/
def iv (zs : List Int) : List Value := zs.map (Value.int .i64)
theorem iv_length (zs : List Int) : (iv zs).length = zs.length := by unfold iv; simp
theorem iv_at {zs : List Int} {j : Nat} {x : Int} (h : zs[j]? = some x) : (iv zs)[j]? = some (.int .i64 x) := by unfold iv; rw [List.getElem?_map, h]; rfl
/-- slice value v is a row of the call's own (from block B on) that holds these numbers -/
def Own (B : Nat) (w : World) (v : Value) (zs : List Int) : Prop := w.ownsRow B 2 1 v zs.length (iv zs)
theorem info_i64 : (Tryd.prog.info? 2).map (fun i => (i.zero, i.size, i.bytes)) = some (some (.int .i64 0), 1, 8) := by kernel_rfl
theorem Own.sl {B : Nat} {w : World} {v : Value} {zs : List Int} (h : Own B w v zs) : Sl w v zs := by
  rcases Go.Joins.ownsRow_forms h with ⟨rfl, hn⟩ | ⟨g, cap, rfl⟩
  · exact Or.inl ⟨List.eq_nil_of_length_eq_zero hn, _, _, rfl⟩
  · refine Or.inr ⟨g, 0, cap, rfl, (World.ownsRow.lt h g rfl).2, fun j x hx => ?_⟩
    have hj : j < zs.length := (List.getElem?_eq_some_iff.1 hx).1
    rw [Nat.zero_add, World.ownsRow.cellAt h j (by omega)]
    exact iv_at hx
theorem set_take {xs : List Value} {k : Nat} {u : Value} {ys : List Value} (hk : k < xs.length) (h : xs.take k = ys) : (xs.set k u).take (k + 1) = ys ++ [u] := by
  rw [List.take_succ_eq_append_getElem (by simpa using hk), List.take_set_of_le (Nat.le_refl _), h, List.getElem_set_self]
theorem iv_snoc {zs : List Int} {k : Nat} (h : k < zs.length) : iv (zs.take (k + 1)) = iv (zs.take k) ++ [.int .i64 zs[k]] := by
  rw [List.take_succ_eq_append_getElem h]; unfold iv; rw [List.map_append]; rfl

set_option maxHeartbeats 1600000 in
theorem toInt64S_any (w : World) (v : Value) (zs : List Int) (hv : Sl w v zs) (hl : zs.length ≤ 1048576) :
    Calls Tryd.prog 17 #[v] w fun e w' => ∃ u, e = .returned u ∧ Own w.heap.size w' u zs ∧ Below w.heap.size w w' := by
  obtain ⟨i0, hi, hz0, hz1, hz2⟩ := info_parts info_i64
  obtain ⟨a, cap, rfl⟩ := hv.form
  have HV := Lib.hid hv
  clear hv
  go_enter Tryd.func17, Tryd.ntmps17
  go_wp2_with (at_make; refine wpList_make_full _ rfl _ _ 22 rfl w.heap.size 2 i0 (.int .i64 0) 1 Tryd.underlying22 hi hz0 hz1 .i64 .i64 _ _ zs.length rfl rfl rfl rfl ?c1 ?c2 ?c3 ?_)
  case c1 => rw [hz2]; omega
  case c2 => unfold maxLen; omega
  case c3 => exact Nat.le_refl _
  intro w1 hown hg
  have hbel : Below w.heap.size w w1 := (Below.refl _ w).grown hg (Nat.le_refl _) (fun k hk => by cases hk)
  have HO : Hid (∃ xs : List Value, w1.ownsRow w.heap.size 2 1 (.slice (some ⟨w.heap.size, 0, none⟩) zs.length zs.length) zs.length xs ∧ xs.take 0 = iv (zs.take 0)) := Lib.hid ⟨_, hown, by simp [iv]⟩
  have HB := Lib.hid hbel
  clear hown hg hbel
  go_wp2
  go_loopw [4] (fun i wr => ∃ k : Nat, k ≤ zs.length ∧ i = .int .i64 k ∧ Hid (Below w.heap.size w wr) ∧ Hid (∃ xs : List Value, wr.ownsRow w.heap.size 2 1 (.slice (some ⟨w.heap.size, 0, none⟩) zs.length zs.length) zs.length xs ∧ xs.take k = iv (zs.take k))) (fun i _ => zs.length - (intOf i).toNat)
  case atStart => exact ⟨0, Nat.zero_le _, rfl, HB, HO⟩
  case round =>
    obtain ⟨k, hk, rfl, hb, hx⟩ := hrel
    by_cases hlt : k < zs.length
    · obtain ⟨xs, hown, htk⟩ := hx.out
      have hxl : k < xs.length := by have := hown.1; omega
      have c2 : wr.cell? ⟨w.heap.size, k, none⟩ = some xs[k] := (hown.cellAt k (by omega)).trans (List.getElem?_eq_getElem hxl)
      have f2 := hown.frozenAt k
      have HS := Lib.hid (hown.stored k (.int .i64 zs[k]))
      have HT := Lib.hid (set_take (u := .int .i64 zs[k]) hxl htk)
      rcases HV.out with ⟨hz, -⟩ | ⟨b, off, cap', hn, hbl, hc⟩
      · rw [hz] at hlt; simp at hlt
      · simp only [Value.slice.injEq] at hn
        obtain ⟨rfl, -, rfl⟩ := hn
        have c1 : wr.cell? ⟨b, off + k, none⟩ = some (.int .i64 zs[k]) := (hb.out.cell (p := ⟨b, off + k, none⟩) hbl).trans (hc k zs[k] (List.getElem?_eq_getElem hlt))
        have hlb : w.heap.size ≤ wr.heap.size := hb.out.size
        have hnb : Hid (Below w.heap.size w (wr.setCell ⟨w.heap.size, k, none⟩ (.int .i64 zs[k]))) := Lib.hid (hb.out.setCell (Nat.le_refl _) _)
        have HN : Hid (∃ ys : List Value, (wr.setCell ⟨w.heap.size, k, none⟩ (.int .i64 zs[k])).ownsRow w.heap.size 2 1 (.slice (some ⟨w.heap.size, 0, none⟩) zs.length zs.length) zs.length ys ∧ ys.take (k + 1) = iv (zs.take (k + 1))) := Lib.hid ⟨_, HS.out.1, by rw [HT.out, iv_snoc hlt]⟩
        clear hx hown htk hc hb
        generalize xs[k] = old at *
        go_wp2
        exact ⟨⟨k + 1, by omega, by go_num, hnb, HN⟩, by simp only [intOf]; omega⟩
    · have hkz : k = zs.length := by omega
      subst hkz
      go_wp2
      go_ret
      refine ⟨_, rfl, ?_, hb.out⟩
      obtain ⟨xs, hown, htk⟩ := hx.out
      have : xs = iv zs := by
        have h1 := hown.1
        rw [List.take_of_length_le (by omega), List.take_length] at htk
        exact htk
      rw [this] at hown
      exact hown

/-- the numbers from k on, so many -/
def upTo (k : Int) (n : Nat) : List Int := (List.range n).map fun j : Nat => k + (j : Int)
theorem upTo_length (k : Int) (n : Nat) : (upTo k n).length = n := by unfold upTo; simp
theorem upTo_at {k : Int} {n j : Nat} (h : j < n) : (upTo k n)[j]? = some (k + (j : Int)) := by unfold upTo; simp [h]
theorem upTo_take (k : Int) {n j : Nat} (h : j ≤ n) : (upTo k n).take j = upTo k j := by
  unfold upTo; rw [← List.map_take, List.take_range, Nat.min_eq_left h]
theorem upTo_snoc (k : Int) (j : Nat) : upTo k (j + 1) = upTo k j ++ [k + (j : Int)] := by unfold upTo; rw [List.range_succ, List.map_append]; rfl

set_option maxHeartbeats 1600000 in
/-- marking a row of the call's own: it holds the numbers from k on -/
theorem markInt64S_any (B : Nat) (w : World) (v : Value) (zs : List Int) (k0 : Int) (h0 : 1 ≤ k0) (h1 : k0 ≤ 1000000000) (ho : Own B w v zs) (hl : zs.length ≤ 1048576) :
    Calls Tryd.prog 20 #[v, .int .i64 k0] w fun e w' => e = .returned (.int .i64 (k0 + zs.length)) ∧ Own B w' v (upTo k0 zs.length) ∧ Below B w w' := by
  have hend : ∀ (wr : World) (u : Value), (∃ xs : List Value, wr.ownsRow B 2 1 u zs.length xs ∧ xs.take zs.length = iv (upTo k0 zs.length)) → Own B wr u (upTo k0 zs.length) := by
    rintro wr u ⟨xs, hx, ht⟩
    have h1 := hx.1
    have : xs = iv (upTo k0 zs.length) := by rw [List.take_of_length_le (by omega)] at ht; exact ht
    subst this
    unfold Own; rw [upTo_length]; exact hx
  have HE := Lib.hid hend
  clear hend
  rcases Go.Joins.ownsRow_forms ho with ⟨rfl, hn⟩ | ⟨g, cap, rfl⟩
  · have hO : Hid (Own B w (.slice none 0 0) (upTo k0 zs.length)) := Lib.hid (by rw [hn]; exact World.ownsRow_nil _ _ _ _)
    rw [hn] at hO ⊢
    clear HE hn ho
    go_enter Tryd.func20, Tryd.ntmps20
    go_wp2
    refine wp_loop_rounds 1 ?_
    rw [rounds_succ]
    go_wp2
    go_ret
    exact ⟨ret_int (by simp), hO.out, Below.refl _ _⟩
  · have hgB : B ≤ g := (World.ownsRow.lt ho g rfl).1
    have HO : Hid (∃ xs : List Value, w.ownsRow B 2 1 (.slice (some ⟨g, 0, none⟩) zs.length cap) zs.length xs ∧ xs.take 0 = iv (upTo k0 0)) := Lib.hid ⟨_, ho, rfl⟩
    clear ho
    generalize zs.length = n at *
    go_enter Tryd.func20, Tryd.ntmps20
    go_wp2
    go_loopw [1, 5] (fun x i wr => ∃ k : Nat, k ≤ n ∧ i = .int .i64 k ∧ x = .int .i64 (k0 + k) ∧ Hid (Below B w wr) ∧ Hid (∃ xs : List Value, wr.ownsRow B 2 1 (.slice (some ⟨g, 0, none⟩) n cap) n xs ∧ xs.take k = iv (upTo k0 k))) (fun _ i _ => n - (intOf i).toNat)
    case atStart => exact ⟨0, Nat.zero_le _, rfl, by simp, Lib.hid (Below.refl _ _), HO⟩
    case round =>
      obtain ⟨k, hk, rfl, rfl, hb, hx⟩ := hrel
      by_cases hlt : k < n
      · obtain ⟨xs, hown, htk⟩ := hx.out
        have hxl : k < xs.length := by have := hown.1; omega
        have c2 : wr.cell? ⟨g, k, none⟩ = some xs[k] := (hown.cellAt k (by omega)).trans (List.getElem?_eq_getElem hxl)
        have f2 := hown.frozenAt k
        have HN : Hid (∃ ys : List Value, (wr.setCell ⟨g, k, none⟩ (.int .i64 (k0 + k))).ownsRow B 2 1 (.slice (some ⟨g, 0, none⟩) n cap) n ys ∧ ys.take (k + 1) = iv (upTo k0 (k + 1))) :=
          Lib.hid ⟨_, (hown.stored k (.int .i64 (k0 + k))).1, by rw [set_take hxl htk, upTo_snoc]; unfold iv; rw [List.map_append]; rfl⟩
        have hnb : Hid (Below B w (wr.setCell ⟨g, k, none⟩ (.int .i64 (k0 + k)))) := Lib.hid (hb.out.setCell hgB _)
        clear hx hown htk hb
        generalize xs[k] = old at *
        go_wp2
        exact ⟨⟨k + 1, by omega, by go_num, by go_num, hnb, HN⟩, by simp only [intOf]; omega⟩
      · have hkz : k = n := by omega
        subst hkz
        go_wp2
        go_ret
        exact ⟨rfl, HE.out _ _ hx.out, hb.out⟩
set_option maxHeartbeats 1600000 in
theorem heldInt64S_any (w : World) (v : Value) (n : Nat) (k0 : Int) (h0 : 1 ≤ k0) (h1 : k0 ≤ 1000000000) (hv : Sl w v (upTo k0 n)) (hl : n ≤ 1048576) :
    Calls Tryd.prog 23 #[v, .int .i64 k0] w fun e w' => e = .returned (.int .i64 (k0 + n)) ∧ Below w.heap.size w w' := by
  have hln := upTo_length k0 n
  obtain ⟨a, cap, hf⟩ := hv.form
  rw [hln] at hf
  subst hf
  have HV := Lib.hid hv
  clear hv hln
  go_enter Tryd.func23, Tryd.ntmps23
  go_wp2
  go_loopw [1, 5] (fun x i wr => ∃ (k : Nat) (z : Int), k ≤ n ∧ i = .int .i64 k ∧ x = .int .i64 z ∧ Hid (z = k0 + k) ∧ 1 ≤ z ∧ z ≤ 1000000000 + k ∧ ∃ q, wr = w.drewN q) (fun _ i _ => n - (intOf i).toNat)
  case atStart => exact ⟨0, k0, Nat.zero_le _, rfl, rfl, Lib.hid (by simp), h0, by omega, 0, rfl⟩
  case round =>
    obtain ⟨k, z, hk, rfl, rfl, hz, z1, z2, q, rfl⟩ := hrel
    by_cases hlt : k < n
    · rcases HV.out with ⟨hz', -⟩ | ⟨b, off, cap', hn, hbl, hc⟩
      · have := congrArg List.length hz'
        rw [upTo_length] at this; simp at this; omega
      · simp only [Value.slice.injEq] at hn
        obtain ⟨rfl, -, rfl⟩ := hn
        have c1 := hc k _ (upTo_at hlt)
        rw [← hz.out] at c1
        clear hc
        go_wp2
        exact ⟨⟨k + 1, z + 1, by omega, by go_num, rfl, Lib.hid (by rw [hz.out]; omega), by omega, by omega, _, rfl⟩, by simp only [intOf]; omega⟩
    · have hkn : k = n := by omega
      subst hkn
      go_wp2
      go_ret
      exact ⟨ret_int hz.out, below_drewN (Below.refl _ _) _⟩
end Go.Proofs.YtmidihmbehaegaaDoor

import Derived.Test.YtoopjefalkdpkaaMark
import Derived.Laws.OwnMore
import Derived.Laws.MakeOwn
import Derived.Deep.QuietTactic
import Derived.Deep.RegionWith
import Derived.RegionTactic
import Derived.BigQuiet
import Derived.WalkSmall
namespace Go.Proofs.Ytoopjefalkdpkaa
open Go.RowKit
set_option linter.unusedVariables false

/-- slice value v reads in world w as these texts -/
def TSl (w : World) (v : Value) (ls : List (List UInt8)) : Prop :=
  (ls = [] ∧ ∃ a cap, v = .slice a 0 cap) ∨ ∃ b off cap, v = .slice (some ⟨b, off, none⟩) ls.length cap ∧ b < w.heap.size ∧ ∀ j x, ls[j]? = some x → w.cell? ⟨b, off + j, none⟩ = some (.string ⟨x.toArray⟩)
theorem TSl.below {w w1 : World} {v : Value} {ls : List (List UInt8)} (h : TSl w v ls) (hb : Below w.heap.size w w1) : TSl w1 v ls := by
  rcases h with h | ⟨b, off, cap, rfl, hlt, hc⟩
  · exact Or.inl h
  · exact Or.inr ⟨b, off, cap, rfl, Nat.lt_of_lt_of_le hlt hb.size, fun j x hx => (hb.cell (p := ⟨b, off + j, none⟩) hlt).trans (hc j x hx)⟩
theorem TSl.nil_of {w : World} {v : Value} {ls : List (List UInt8)} (h : TSl w v ls) (hz : ls.length = 0) : ∃ a cap, v = .slice a 0 cap := by
  rcases h with ⟨_, a, cap, rfl⟩ | ⟨b, off, cap, rfl, _⟩
  · exact ⟨_, _, rfl⟩
  · rw [hz]; exact ⟨_, _, rfl⟩
theorem TSl.form {w : World} {v : Value} {ls : List (List UInt8)} (h : TSl w v ls) : ∃ a cap, v = .slice a ls.length cap := by
  rcases h with ⟨rfl, a, cap, rfl⟩ | ⟨b, off, cap, rfl, _⟩ <;> exact ⟨_, _, rfl⟩
theorem teq_of_take {α : Type} [BEq α] [ReflBEq α] {zs ys : List α} (hl : zs.length = ys.length) (h : zs.take zs.length = ys.take zs.length) : (zs == ys) = true := by
  rw [List.take_length, hl, List.take_length] at h; rw [h]; exact beq_self_eq_true _
theorem tne_of_at {zs ys : List (List UInt8)} {k : Nat} (h1 : k < zs.length) (h2 : k < ys.length) (h : zs[k] ≠ ys[k]) : (zs == ys) = false := by
  rw [beq_eq_false_iff_ne]; intro e; subst e; exact h rfl
theorem ttake_eq {α : Type} {zs ys : List α} {k : Nat} (h1 : k < zs.length) (h2 : k < ys.length) (hp : zs.take k = ys.take k) (h : zs[k] = ys[k]) : zs.take (k + 1) = ys.take (k + 1) := by
  rw [List.take_succ_eq_append_getElem h1, List.take_succ_eq_append_getElem h2, hp, h]
theorem wdrew {w : World} {n : Nat} : Below w.heap.size w (w.drewN n) := below_drewN (Below.refl _ _) _

set_option maxHeartbeats 1600000 in
theorem eqStringS_any (w : World) (v u : Value) (zs ys : List (List UInt8)) (hv : TSl w v zs) (hu : TSl w u ys) (hl : zs.length ≤ 1048577) (hl2 : ys.length ≤ 1048577) :
    Calls Try.prog 13 #[v, u] w fun e w' => e = .returned (.bool (zs == ys)) ∧ Below w.heap.size w w' := by
  by_cases hlen : zs.length = ys.length
  · by_cases hz : zs.length = 0
    · obtain ⟨a, cap, rfl⟩ := hv.nil_of hz
      obtain ⟨a', cap', rfl⟩ := hu.nil_of (by omega)
      have he : Hid ((zs == ys) = true) := Lib.hid (by rw [List.eq_nil_of_length_eq_zero hz, List.eq_nil_of_length_eq_zero (show ys.length = 0 by omega)]; rfl)
      clear hz hlen
      go_enter Try.func13, Try.ntmps13
      go_wp2
      refine wp_loop_rounds 1 ?_
      rw [rounds_succ]
      go_wp2
      go_ret
      exact ⟨ret_bool he.out.symm, Below.refl _ _⟩
    · rcases hv with ⟨rfl, -⟩ | ⟨b, off, cap, rfl, hlt, hc⟩
      · exact absurd rfl hz
      · rcases hu with ⟨rfl, -⟩ | ⟨b', off', cap', rfl, hlt', hc'⟩
        · exact absurd hlen hz
        · have hll : ((zs.length : Int) != (ys.length : Int)) = false := by simp; omega
          have hle : zs.length ≤ ys.length := by omega
          have HL := Lib.hid hlen
          have HC := Lib.hid hc
          have HC' := Lib.hid hc'
          clear hlen hc hc' hz
          go_enter Try.func13, Try.ntmps13
          go_wp2
          go_loopw [5] (fun i wr => ∃ k : Nat, k ≤ zs.length ∧ i = .int .i64 k ∧ (∃ n, wr = w.drewN n) ∧ Hid (zs.take k = ys.take k)) (fun i _ => zs.length - (intOf i).toNat)
          case atStart => exact ⟨0, Nat.zero_le _, rfl, ⟨0, rfl⟩, Lib.hid rfl⟩
          case round =>
            obtain ⟨k, hk, rfl, ⟨n, rfl⟩, hp⟩ := hrel
            by_cases hlt2 : k < zs.length
            · have hlt3 : k < ys.length := by omega
              have c1 := HC.out k zs[k] (List.getElem?_eq_getElem hlt2)
              have c2 := HC'.out k ys[k] (List.getElem?_eq_getElem hlt3)
              by_cases he : zs[k] = ys[k]
              · have hx : (zs[k] == ys[k]) = true := by rw [he]; exact beq_self_eq_true _
                have hx2 : (zs[k] != ys[k]) = false := by rw [he]; simp
                have hn := Lib.hid (ttake_eq hlt2 hlt3 hp.out he)
                clear he
                generalize zs[k] = zk at *
                generalize ys[k] = yk at *
                go_wp2
                go_quiet (fail)
                go_wp2
                exact ⟨⟨k + 1, by omega, by go_num, ⟨_, rfl⟩, hn⟩, by simp only [intOf]; omega⟩
              · have hx : (zs[k] == ys[k]) = false := by rw [beq_eq_false_iff_ne]; exact he
                have hx2 : (zs[k] != ys[k]) = true := by rw [bne_iff_ne]; exact he
                have hn := Lib.hid (tne_of_at hlt2 hlt3 he)
                clear he
                generalize zs[k] = zk at *
                generalize ys[k] = yk at *
                go_wp2
                go_quiet (fail)
                go_wp2
                go_ret
                exact ⟨ret_bool hn.out.symm, below_drewN (below_drewN (Below.refl _ _) _) _⟩
            · have hkz : k = zs.length := by omega
              have hn : Hid ((zs == ys) = true) := Lib.hid (teq_of_take HL.out (by rw [← hkz]; exact hp.out))
              clear hkz
              go_wp2
              go_ret
              exact ⟨ret_bool hn.out.symm, below_drewN (Below.refl _ _) _⟩
  · obtain ⟨a, cap, rfl⟩ := hv.form
    obtain ⟨a', cap', rfl⟩ := hu.form
    have hll : ((zs.length : Int) != (ys.length : Int)) = true := by rw [bne_iff_ne]; omega
    have hn : Hid ((zs == ys) = false) := Lib.hid (by rw [beq_eq_false_iff_ne]; intro e; exact hlen (by rw [e]))
    clear hlen
    go_enter Try.func13, Try.ntmps13
    go_wp2
    go_ret
    exact ⟨ret_bool hn.out.symm, Below.refl _ _⟩
theorem Strs.sl {B : Nat} {w : World} {v : Value} {ls : List (List UInt8)} (h : Strs B w v ls) : TSl w v ls := by
  rcases Go.Joins.ownsRow_forms h with ⟨rfl, hn⟩ | ⟨g, cap, rfl⟩
  · exact Or.inl ⟨List.eq_nil_of_length_eq_zero hn, _, _, rfl⟩
  · refine Or.inr ⟨g, 0, cap, rfl, (World.ownsRow.lt h g rfl).2, fun j x hx => ?_⟩
    have hj : j < ls.length := (List.getElem?_eq_some_iff.1 hx).1
    rw [Nat.zero_add, World.ownsRow.cellAt h j (by omega)]
    unfold tvl; rw [List.getElem?_map, hx]; rfl
theorem Strs.belowAll {B : Nat} {w w1 : World} {v : Value} {ls : List (List UInt8)} (h : Strs B w v ls) (hb : Below w.heap.size w w1) : Strs B w1 v ls := by
  refine ⟨h.1, ?_⟩
  rcases h.2 with h' | ⟨g, cap, cur, hv, hB, hg, rest⟩
  · exact Or.inl h'
  · have hlt : g < w.heap.size := (Array.getElem?_eq_some_iff.1 hg).1
    exact Or.inr ⟨g, cap, cur, hv, hB, (hb.block g hlt).trans hg, rest⟩
theorem rowBelow {B : Nat} {w w1 : World} {e : TypeId} {size : Nat} {v : Value} {n : Nat} {xs : List Value} (h : w.ownsRow B e size v n xs) (hb : Below w.heap.size w w1) : w1.ownsRow B e size v n xs := by
  refine ⟨h.1, ?_⟩
  rcases h.2 with h' | ⟨g, cap, cur, hv, hB, hg, rest⟩
  · exact Or.inl h'
  · have hlt : g < w.heap.size := (Array.getElem?_eq_some_iff.1 hg).1
    exact Or.inr ⟨g, cap, cur, hv, hB, (hb.block g hlt).trans hg, rest⟩
/-- the marks from k on, so many -/
def tUp (k n : Nat) : List (List UInt8) := (List.range n).map fun j => mkT (k + j)
theorem tUp_length (k n : Nat) : (tUp k n).length = n := by unfold tUp; simp
theorem tUp_at {k n j : Nat} (h : j < n) : (tUp k n)[j]? = some (mkT (k + j)) := by unfold tUp; simp [h]
theorem tUp_snoc (k j : Nat) : tUp k (j + 1) = tUp k j ++ [mkT (k + j)] := by unfold tUp; rw [List.range_succ, List.map_append]; rfl
theorem tset_take {xs : List Value} {k : Nat} {u : Value} {ys : List Value} (hk : k < xs.length) (h : xs.take k = ys) : (xs.set k u).take (k + 1) = ys ++ [u] := by
  rw [List.take_succ_eq_append_getElem (by simpa using hk), List.take_set_of_le (Nat.le_refl _), h, List.getElem_set_self]
theorem tvl_len2 {ls : List (List UInt8)} {n : Nat} (h : ls.length = n) : (tvl ls).length = n := by rw [tvl_length]; exact h
theorem markText_sum (k0 k : Nat) (w : World) (h1 : 1 ≤ k0) (h2 : k0 + k ≤ 1000000000) :
    Calls Try.prog 31 #[.int .i64 ((k0 : Int) + (k : Int))] w fun e w' => e = .returned (.string ⟨(mkT (k0 + k)).toArray⟩) ∧ Below w.heap.size w w' := by
  have := markText_any (k0 + k) w (by omega) h2
  rwa [Int.natCast_add] at this
set_option maxHeartbeats 1600000 in
/-- marking a row of the call's own: it holds the marks from k on -/
theorem markStringS_any (B : Nat) (w : World) (v : Value) (ls : List (List UInt8)) (k0 : Nat) (h0 : 1 ≤ k0) (h1 : k0 ≤ 100000000) (hB : B ≤ w.heap.size) (ho : Strs B w v ls) (hl : ls.length ≤ 1048577) :
    Calls Try.prog 14 #[v, .int .i64 k0] w fun e w' => e = .returned (.int .i64 ((k0 : Int) + (ls.length : Int))) ∧ Strs B w' v (tUp k0 ls.length) ∧ Below B w w' := by
  have hend : ∀ (wr : World) (u : Value), (∃ xs : List Value, wr.ownsRow B 9 1 u ls.length xs ∧ xs.take ls.length = tvl (tUp k0 ls.length)) → Strs B wr u (tUp k0 ls.length) := by
    rintro wr u ⟨xs, hx, ht⟩
    have h1 := hx.1
    have : xs = tvl (tUp k0 ls.length) := by rw [List.take_of_length_le (by omega)] at ht; exact ht
    subst this
    unfold Strs; rw [tUp_length]; exact hx
  have HE := Lib.hid hend
  clear hend
  rcases Go.Joins.ownsRow_forms ho with ⟨rfl, hn⟩ | ⟨g, cap, rfl⟩
  · have hO : Hid (Strs B w (.slice none 0 0) (tUp k0 ls.length)) := Lib.hid (by rw [hn]; exact World.ownsRow_nil _ _ _ _)
    rw [hn] at hO ⊢
    clear HE hn ho
    go_enter Try.func14, Try.ntmps14
    go_wp2
    refine wp_loop_rounds 1 ?_
    rw [rounds_succ]
    go_wp2
    go_ret
    exact ⟨ret_int (by simp), hO.out, Below.refl _ _⟩
  · have hgB : B ≤ g := (World.ownsRow.lt ho g rfl).1
    have HO : Hid (∃ xs : List Value, w.ownsRow B 9 1 (.slice (some ⟨g, 0, none⟩) ls.length cap) ls.length xs ∧ xs.take 0 = tvl (tUp k0 0)) := Lib.hid ⟨_, ho, rfl⟩
    clear ho
    generalize ls.length = n at *
    go_enter Try.func14, Try.ntmps14
    go_wp2
    go_loopw [1, 5] (fun x i wr => ∃ k : Nat, k ≤ n ∧ i = .int .i64 k ∧ x = .int .i64 ((k0 : Int) + (k : Int)) ∧ Hid (Below B w wr) ∧ Hid (∃ xs : List Value, wr.ownsRow B 9 1 (.slice (some ⟨g, 0, none⟩) n cap) n xs ∧ xs.take k = tvl (tUp k0 k))) (fun _ i _ => n - (intOf i).toNat)
    case atStart => exact ⟨0, Nat.zero_le _, rfl, by simp, Lib.hid (Below.refl _ _), HO⟩
    case round =>
      obtain ⟨k, hk, rfl, rfl, hb, hx⟩ := hrel
      by_cases hlt : k < n
      · obtain ⟨xs, hown, htk⟩ := hx.out
        have HW := Lib.hid hown
        have hxl : k < xs.length := by have := hown.1; omega
        have C := Lib.hid (markText_sum k0 k wr h0 (by omega))
        have HT := Lib.hid htk
        clear hx hown htk
        go_wp2_with fail
        refine C.out.mono ?_
        rintro e w1 ⟨rfl, b1⟩
        clear C
        have hown : w1.ownsRow B 9 1 (.slice (some ⟨g, 0, none⟩) n cap) n xs := rowBelow HW.out b1
        have c2 : w1.cell? ⟨g, k, none⟩ = some xs[k] := (hown.cellAt k (by omega)).trans (List.getElem?_eq_getElem hxl)
        have f2 := hown.frozenAt k
        have HN : Hid (∃ ys : List Value, (w1.setCell ⟨g, k, none⟩ (.string ⟨(mkT (k0 + k)).toArray⟩)).ownsRow B 9 1 (.slice (some ⟨g, 0, none⟩) n cap) n ys ∧ ys.take (k + 1) = tvl (tUp k0 (k + 1))) :=
          Lib.hid ⟨_, (hown.stored k (.string ⟨(mkT (k0 + k)).toArray⟩)).1, by rw [tset_take hxl HT.out, tUp_snoc, tvl_snoc]⟩
        have hnb : Hid (Below B w (w1.setCell ⟨g, k, none⟩ (.string ⟨(mkT (k0 + k)).toArray⟩))) := Lib.hid ((hb.out.trans (b1.mono (Nat.le_trans hB hb.out.size))).setCell hgB _)
        clear hown hb b1 HW HT
        generalize xs[k] = old at *
        generalize mkT (k0 + k) = tx at *
        go_wp2
        exact ⟨⟨k + 1, by omega, by go_num, by go_num, hnb, HN⟩, by simp only [intOf]; omega⟩
      · have hkz : k = n := by omega
        subst hkz
        go_wp2
        go_ret
        exact ⟨rfl, HE.out _ _ hx.out, hb.out⟩
theorem tbt {w w1 w2 : World} (h1 : Below w.heap.size w w1) (h2 : Below w1.heap.size w1 w2) : Below w.heap.size w w2 := h1.trans (h2.mono h1.size)
theorem later {W w1 : World} {b o : Nat} {v : Value} (hb : Below W.heap.size W w1) (h : b < W.heap.size) (hc : W.cell? ⟨b, o, none⟩ = some v) : w1.cell? ⟨b, o, none⟩ = some v := (hb.cell (p := ⟨b, o, none⟩) h).trans hc
theorem markText_held (b o : Nat) (p : List UInt8) (k0 k : Nat) (w : World) (h1 : 1 ≤ k0) (h2 : k0 + k ≤ 1000000000) (hb : b < w.heap.size) (hc : w.cell? ⟨b, o, none⟩ = some (.string ⟨p.toArray⟩)) :
    Calls Try.prog 31 #[.int .i64 ((k0 : Int) + (k : Int))] w fun e w' => e = .returned (.string ⟨(mkT (k0 + k)).toArray⟩) ∧ Hid (Below w.heap.size w w') ∧ w'.cell? ⟨b, o, none⟩ = some (.string ⟨p.toArray⟩) :=
  (markText_sum k0 k w h1 h2).mono fun e w' h => ⟨h.1, Lib.hid h.2, later h.2 hb hc⟩
theorem drewBelow {w w1 : World} (h : Below w.drew.heap.size w.drew w1) : Below w.heap.size w w1 :=
  ((Below.refl _ w).drew).trans (by simpa using h)
set_option maxHeartbeats 1600000 in
theorem heldStringS_any (w : World) (v : Value) (n k0 : Nat) (h0 : 1 ≤ k0) (h1 : k0 ≤ 100000000) (hv : TSl w v (tUp k0 n)) (hl : n ≤ 1048577) :
    Calls Try.prog 15 #[v, .int .i64 k0] w fun e w' => e = .returned (.int .i64 ((k0 : Int) + (n : Int))) ∧ Below w.heap.size w w' := by
  have hln := tUp_length k0 n
  obtain ⟨a, cap, hf⟩ := hv.form
  rw [hln] at hf
  subst hf
  have HV := Lib.hid hv
  clear hv hln
  go_enter Try.func15, Try.ntmps15
  go_wp2
  go_loopw [1, 5] (fun x i wr => ∃ k : Nat, k ≤ n ∧ i = .int .i64 k ∧ x = .int .i64 ((k0 : Int) + (k : Int)) ∧ Hid (Below w.heap.size w wr)) (fun _ i _ => n - (intOf i).toNat)
  case atStart => exact ⟨0, Nat.zero_le _, rfl, by simp, Lib.hid (Below.refl _ _)⟩
  case round =>
    obtain ⟨k, hk, rfl, rfl, hb⟩ := hrel
    by_cases hlt : k < n
    · rcases HV.out with ⟨hz', -⟩ | ⟨b, off, cap', hn, hbl, hc⟩
      · have := congrArg List.length hz'
        rw [tUp_length] at this; simp at this; omega
      · simp only [Value.slice.injEq] at hn
        obtain ⟨rfl, -, rfl⟩ := hn
        have c1 : wr.cell? ⟨b, off + k, none⟩ = some (.string ⟨(mkT (k0 + k)).toArray⟩) := later hb.out hbl (hc k _ (tUp_at hlt))
        have hbl2 : b < wr.heap.size := Nat.lt_of_lt_of_le hbl hb.out.size
        have C := Lib.hid (fun (W : World) => markText_held b (off + k) (mkT (k0 + k)) k0 k W h0 (by omega))
        have hx : (mkT (k0 + k) == mkT (k0 + k)) = true := beq_self_eq_true _
        have hx2 : (mkT (k0 + k) != mkT (k0 + k)) = false := by simp
        clear hc
        generalize mkT (k0 + k) = tx at *
        go_wp2_with fail
        go_region_with (refine (C.out _ (by first | assumption | simpa using hbl2) (by simpa using c1)).mono ?_; rintro e w1 ⟨rfl, b1, c2⟩)
        all_goals
          go_wp2
          exact ⟨⟨k + 1, by omega, by go_num, by go_num, Lib.hid (hb.out.trans ((drewBelow b1.out).mono hb.out.size))⟩, by simp only [intOf]; omega⟩
    · have hkn : k = n := by omega
      subst hkn
      go_wp2
      go_ret
      exact ⟨rfl, hb.out⟩
end Go.Proofs.Ytoopjefalkdpkaa

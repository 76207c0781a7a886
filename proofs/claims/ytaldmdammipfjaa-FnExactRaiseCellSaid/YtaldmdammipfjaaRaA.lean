/-
  RaiseCell (chapter 15): what is answered, and the model. The condition: the numbers are int64's.
-/
import Derived.Test.YtaldmdammipfjaaGdV
import Derived.Test.YtaldmdammipfjaaGt
import Derived.Test.YtaldmdammipfjaaFdC
namespace Go.Proofs.Ytaldmdammipfjaa
open Go.RowKit Go.Shelf Go.Deep
set_option linter.unusedVariables false
set_option maxRecDepth 100000
namespace Gw
def raK (r c s : Int) (zs : List Int) (k b : Int) : Int := Cd.cd (ok r c s zs) (isCell r c k && Ar.inB 0 b 100) (if 5000 < zs.getD k.toNat 0 + b then 6 else 0)
def raN (r c s : Int) (zs : List Int) (k b x : Int) : Int := if raK r c s zs k b = 0 then x else 0
def raL (r c s : Int) (zs : List Int) (k b : Int) : List Int := if raK r c s zs k b = 0 then zs.set k.toNat (zs.getD k.toNat 0 + b) else []
theorem raL_len {r c s : Int} {zs : List Int} (k b : Int) (h : zs.length ≤ 1048576) : (raL r c s zs k b).length ≤ 1048576 := by
  unfold raL; split
  · rw [List.length_set]; exact h
  · simp
theorem ra_no {r c s : Int} {zs : List Int} {k b : Int} (h : raK r c s zs k b ≠ 0) (x : Int) : raN r c s zs k b x = 0 ∧ raL r c s zs k b = [] := by unfold raN raL; rw [if_neg h, if_neg h]; exact ⟨rfl, rfl⟩
theorem ra_yes {r c s : Int} {zs : List Int} {k b : Int} (h : raK r c s zs k b = 0) (x : Int) : raN r c s zs k b x = x ∧ raL r c s zs k b = zs.set k.toNat (zs.getD k.toNat 0 + b) := by unfold raN raL; rw [if_pos h, if_pos h]; exact ⟨rfl, rfl⟩
theorem ok_set {r c s : Int} {zs : List Int} (h : ok r c s zs = true) (k : Nat) (y : Int) (hy : 0 ≤ y) (hk : k < zs.length) : ok r c s (zs.set k y) = decide (y ≤ 5000) := by
  unfold ok at h ⊢
  rw [Bool.and_eq_true] at h
  rw [List.length_set, h.1, Bool.true_and]
  have h2 := (okHs_iff zs).1 h.2
  by_cases h5 : y ≤ 5000
  · rw [decide_eq_true h5]
    refine (okHs_iff _).2 (fun z hz => ?_)
    rcases List.mem_or_eq_of_mem_set hz with h | h
    · exact h2 z h
    · omega
  · rw [decide_eq_false h5, Bool.eq_false_iff]
    intro hc
    have := (okHs_iff _).1 hc y (List.mem_set hk _)
    omega
end Gw
/-- how a call ends that answers a grid of its own and a code -/
def RGC (w : World) (r c s : Int) (zs : List Int) (code : Int) (e : Ending) (w' : World) : Prop :=
  ∃ a cap, e = .returned (.tuple #[.agg #[.int .i64 r, .int .i64 c, .int .i64 s, .slice a zs.length cap], .int .i64 code]) ∧ Own w.heap.size w' (.slice a zs.length cap) zs ∧ Below w.heap.size w w'
theorem RGC.no {w w' : World} {r c s : Int} {zs : List Int} {k b x y z code : Int} (hk : Gw.raK r c s zs k b = code) (h0 : code ≠ 0) (hb : Below w.heap.size w w') : RGC w (Gw.raN r c s zs k b x) (Gw.raN r c s zs k b y) (Gw.raN r c s zs k b z) (Gw.raL r c s zs k b) (Gw.raK r c s zs k b) (.returned (.tuple #[.agg #[.int .i64 0, .int .i64 0, .int .i64 0, .slice none 0 0], .int .i64 code])) w' := by
  have h : Gw.raK r c s zs k b ≠ 0 := by rw [hk]; exact h0
  rw [(Gw.ra_no h x).1, (Gw.ra_no h y).1, (Gw.ra_no h z).1, (Gw.ra_no h x).2, hk]
  exact ⟨none, 0, rfl, Own.nil _ _, hb⟩
theorem RGC.yes {w w' : World} {r c s : Int} {zs : List Int} {k b : Int} {a : Option Addr} {n cap : Nat} (hk : Gw.raK r c s zs k b = 0) (hn : n = zs.length) (ho : Own w.heap.size w' (.slice a n cap) (zs.set k.toNat (zs.getD k.toNat 0 + b))) (hb : Below w.heap.size w w') : RGC w (Gw.raN r c s zs k b r) (Gw.raN r c s zs k b c) (Gw.raN r c s zs k b s) (Gw.raL r c s zs k b) (Gw.raK r c s zs k b) (.returned (.tuple #[.agg #[.int .i64 r, .int .i64 c, .int .i64 s, .slice a n cap], .int .i64 0])) w' := by
  rw [(Gw.ra_yes hk r).1, (Gw.ra_yes hk c).1, (Gw.ra_yes hk s).1, (Gw.ra_yes hk r).2, hk]
  subst hn
  exact ⟨a, cap, by rw [List.length_set], by rw [List.length_set]; exact ho, hb⟩
theorem iv_set (zs : List Int) (k : Nat) (y : Int) : (iv zs).set k (.int .i64 y) = iv (zs.set k y) := by unfold iv; rw [List.map_set]
theorem own_set {B g n cap : Nat} {w : World} {zs : List Int} (h : Own B w (.slice (some ⟨g, 0, none⟩) n cap) zs) (k : Nat) (y : Int) : Own B (w.setCell ⟨g, k, none⟩ (.int .i64 y)) (.slice (some ⟨g, 0, none⟩) n cap) (zs.set k y) := by
  have hn := own_len h
  subst hn
  have := (World.ownsRow.stored h k (.int .i64 y)).1
  unfold Own
  rw [List.length_set, ← iv_set]
  exact this
theorem hv_sl {w : World} {v : Value} {zs : List Int} (h : IAt w v zs) : ∃ b cap, v = .slice (some ⟨b, 0, none⟩) zs.length cap ∧ ∀ k (hk : k < zs.length), w.cell? ⟨b, k, none⟩ = some (.int .i64 zs[k]) := by
  obtain ⟨B, b, cap, rfl, ho⟩ := h
  exact ⟨b, cap, rfl, fun k hk => by rw [World.ownsRow.cellAt ho k (by omega)]; exact iv_at (List.getElem?_eq_getElem hk)⟩
set_option maxHeartbeats 3200000 in
theorem l15Raise_any (w : World) (q : Nat) (r c s : Int) (v : Value) (zs : List Int) (k : Nat) (b : Int) (hc : GC w q r c s v) (hv : IAt w v zs) (hl : zs.length ≤ 1048576) (hk : k < zs.length) (hb : -9223372036854775808 ≤ zs[k] + b ∧ zs[k] + b ≤ 9223372036854775807) :
    Calls Try.prog 54 #[.pointer (some ⟨q, 0, none⟩), .int .i64 (k : Int), .int .i64 b] w fun e w' => ∃ g cap, e = .returned (.agg #[.int .i64 r, .int .i64 c, .int .i64 s, .slice (some ⟨g, 0, none⟩) zs.length cap]) ∧ Own w.heap.size w' (.slice (some ⟨g, 0, none⟩) zs.length cap) (zs.set k (zs[k] + b)) ∧ Below w.heap.size w w' := by
  obtain ⟨W2, hW2⟩ : ∃ W2, boxG (boxG w 0 0 0 (.slice none 0 0) 29) r c s v 29 = W2 := ⟨_, rfl⟩
  have HB : Hid (Below w.heap.size w W2) := Lib.hid (by rw [← hW2]; exact bt (boxG_below ..) (boxG_below ..))
  have hs2 : W2.heap.size = w.heap.size + 2 := by rw [← hW2, boxG_size, boxG_size]
  have R1 : Hid (Whole W2 w.heap.size 29 #[.int .i64 0, .int .i64 0, .int .i64 0, .slice none 0 0]) := Lib.hid (by rw [← hW2]; exact (Whole.new w _ _).alloc _)
  have R2 : Hid (Whole W2 (w.heap.size + 1) 29 #[.int .i64 r, .int .i64 c, .int .i64 s, v]) := Lib.hid (by
    rw [← hW2]
    have := Whole.new (boxG w 0 0 0 (.slice none 0 0) 29) 29 #[.int .i64 r, .int .i64 c, .int .i64 s, v]
    rw [boxG_size] at this
    exact this)
  have CO := Lib.hid (l00Own_any W2 v zs (hv.all HB.out) hl)
  have KQ := Lib.hid (hc.all HB.out)
  obtain ⟨q0, q1, q2, q3⟩ := hc.four
  have qlt := hc.lt
  obtain ⟨B0, gb, gcap, rfl, hown⟩ := hv
  have HS2 := Lib.hid hs2
  obtain ⟨y, hy⟩ : ∃ y, zs[k] = y := ⟨_, rfl⟩
  have HNW : Hid (IntKind.i64.wrap (y + b) = y + b) := Lib.hid (IntWalk.i64_in _ (by rw [← hy]; exact hb))
  have HK := Lib.hid hk
  have hkz : (k : Int) < (zs.length : Int) := by omega
  clear hc hown hs2 hb
  obtain ⟨x0, x1, x2, x3⟩ := KQ.out.four
  have xlt := KQ.out.lt
  have HY := Lib.hid hy
  unfold boxG at hW2
  go_enter Try.func54, Try.ntmps54
  go_wp2_with fail
  try rw [hW2]
  try go_wp2_with fail
  refine CO.out.mono ?_
  rintro e w3 ⟨g, cap, rfl, o3, b3⟩
  have gl := World.ownsRow.lt o3 g rfl
  have A1 := R1.out.all b3
  have A2 := R2.out.all b3
  have c4 : w3.cell? ⟨g, k, none⟩ = some (.int .i64 y) := by rw [o3.cellAt k (by omega), ← hy]; exact iv_at (List.getElem?_eq_getElem hk)
  have f4 := o3.frozenAt k
  have z0 := A2.at_ 0; have z1 := A2.at_ 1; have z2 := A2.at_ 2; have z3 := A2.at_ 3
  have e3 := A2.free 3
  have t0 := A1.at_ 0; have t1 := A1.at_ 1; have t2 := A1.at_ 2; have t3 := A1.at_ 3
  have g0 := A1.free 0; have g1 := A1.free 1; have g2 := A1.free 2; have g3 := A1.free 3
  have O3 := Lib.hid o3
  have B3 := Lib.hid b3
  have hgl : w.heap.size + 2 ≤ g := by have := HS2.out; omega
  have hg1 : w.heap.size + 1 ≠ g := by omega
  have hg0 : w.heap.size ≠ g := by omega
  have hyw := HNW.out
  have G1 : Hid (w3.grownBy (w3.setCell ⟨w.heap.size + 1, 3, none⟩ (.slice (some ⟨g, 0, none⟩) zs.length cap)) (some (w.heap.size + 1))) := Lib.hid (only_setCell (p := ⟨w.heap.size + 1, 3, none⟩) (World.grownBy.refl _ _) rfl _)
  have O4 := Lib.hid (own_set (own_other O3.out G1.out (by omega)) k (y + b))
  have G2 := Lib.hid (only_setCell (p := ⟨g, k, none⟩) (World.grownBy.refl (w3.setCell ⟨w.heap.size + 1, 3, none⟩ (.slice (some ⟨g, 0, none⟩) zs.length cap)) (some g)) rfl (.int .i64 (y + b)))
  have W1' := Lib.hid ((A1.far G1.out (by omega)).far G2.out hg0)
  have B4 := Lib.hid ((bt HB.out B3.out).setCell (p := ⟨w.heap.size + 1, 3, none⟩) (by simp) (.slice (some ⟨g, 0, none⟩) zs.length cap))
  have B5 := Lib.hid (B4.out.setCell (p := ⟨g, k, none⟩) (by simp; omega) (.int .i64 (y + b)))
  clear o3 b3 CO A1 A2 gl hgl HNW hy
  go_wp2_with fail
  have W5 := setG_whole W1'.out r c s (.slice (some ⟨g, 0, none⟩) zs.length cap)
  have O5 := World.ownsRow.kept O4.out (setG_only _ w.heap.size r c s (.slice (some ⟨g, 0, none⟩) zs.length cap)) (Or.inr (by simp [Value.ownBlock]; omega))
  have B6 := setG_below B5.out (Nat.le_refl _) r c s (.slice (some ⟨g, 0, none⟩) zs.length cap)
  have d0 := W5.at_ 0; have d1 := W5.at_ 1; have d2 := W5.at_ 2; have d3 := W5.at_ 3
  unfold setG at d0 d1 d2 d3 O5 B6
  exact bodyPost_ret (v := .agg #[.int .i64 r, .int .i64 c, .int .i64 s, .slice (some ⟨g, 0, none⟩) zs.length cap]) (by simp [results, Try.results54, go_sem, d0, d1, d2, d3]) rfl ⟨g, cap, rfl, by rw [HY.out]; exact Own.le O5 (by have := HS2.out; omega), B6⟩
theorem l15By_any (b : Int) (w : World) : Calls Try.prog 53 #[.int .i64 b] w fun e w' => e = .returned (.bool (Ar.inB 0 b 100)) ∧ w = w' := by
  go_enter Try.func53, Try.ntmps53
  go_wp2_with (go_at_call 75; refine (l00In_any _ _ _ _).mono ?_; rintro e w' ⟨rfl, rfl⟩)
  go_ret
  exact ⟨rfl, rfl⟩
set_option maxHeartbeats 6400000 in
theorem specRaiseCell_any (w : World) (r c s : Int) (v : Value) (zs : List Int) (k b : Int) (hv : IAt w v zs) (hl : zs.length ≤ 1048576) (hkb : -9223372036854775808 ≤ k ∧ k ≤ 9223372036854775807) (hbb : -9223372036854775808 ≤ b ∧ b ≤ 9223372036854775807) :
    Calls Try.prog 24 #[.agg #[.int .i64 r, .int .i64 c, .int .i64 s, v], .int .i64 k, .int .i64 b] w (RGC w (Gw.raN r c s zs k b r) (Gw.raN r c s zs k b c) (Gw.raN r c s zs k b s) (Gw.raL r c s zs k b) (Gw.raK r c s zs k b)) := by
  obtain ⟨W2, hW2⟩ : ∃ W2, boxG (boxG w r c s v 29) 0 0 0 (.slice none 0 0) 29 = W2 := ⟨_, rfl⟩
  have HB : Hid (Below w.heap.size w W2) := Lib.hid (by rw [← hW2]; exact bt (boxG_below ..) (boxG_below ..))
  have hs2 : W2.heap.size = w.heap.size + 2 := by rw [← hW2, boxG_size, boxG_size]
  have K1 : Hid (GC W2 w.heap.size r c s v) := Lib.hid (by rw [← hW2]; exact (boxG_cells w r c s v _).all (boxG_below ..))
  have R1 : Hid (Whole W2 (w.heap.size + 1) 29 #[.int .i64 0, .int .i64 0, .int .i64 0, .slice none 0 0]) := Lib.hid (by
    rw [← hW2]
    have := Whole.new (boxG w r c s v 29) 29 #[.int .i64 0, .int .i64 0, .int .i64 0, .slice none 0 0]
    rw [boxG_size] at this
    exact this)
  have CA := Lib.hid (l09Ask_any W2 w.heap.size r c s k v zs K1.out (hv.sl.below HB.out) hl)
  have CB := Lib.hid (fun W => l15By_any b W)
  have HV := Lib.hid (hv.all HB.out)
  have HS2 := Lib.hid hs2
  clear hv hs2
  unfold boxG at hW2
  by_cases hz : Gw.askC r c s zs k = 0
  · obtain ⟨hok, hcell⟩ : Gw.ok r c s zs = true ∧ Gw.isCell r c k = true := by
      unfold Gw.askC Cd.cd at hz
      split at hz
      · rename_i h1
        split at hz
        · rename_i h2; exact ⟨h1, h2⟩
        · cases hz
      · cases hz
    have G := (Gw.ok_iff _ _ _ _).1 hok
    have hkc := Gw.inB_iff.1 hcell
    have hgn := G.n
    obtain ⟨kn, rfl⟩ : ∃ kn : Nat, k = (kn : Int) := ⟨k.toNat, (Int.toNat_of_nonneg hkc.1).symm⟩
    have hkn : kn < zs.length := by omega
    rw [hz] at CA
    cases hby : Ar.inB 0 b 100 with
    | false =>
      have HE : Hid (Gw.raK r c s zs kn b = 2) := Lib.hid (by unfold Gw.raK; rw [hok, hcell, hby]; rfl)
      rw [hby] at CB
      clear hz hok hcell G hkc hgn hby hkn
      go_enter Try.func24, Try.ntmps24
      go_wp2_with fail
      try rw [hW2]
      refine CA.out.mono ?_
      rintro e w3 ⟨rfl, b3⟩
      have B3 := Lib.hid (bt HB.out b3)
      have A1 := Lib.hid (R1.out.all b3)
      clear b3
      go_wp2_with fail
      refine (CB.out _).mono ?_
      rintro e w4 ⟨rfl, rfl⟩
      have t0 := A1.out.at_ 0; have t1 := A1.out.at_ 1; have t2 := A1.out.at_ 2; have t3 := A1.out.at_ 3
      have g0 := A1.out.free 0; have g1 := A1.out.free 1; have g2 := A1.out.free 2; have g3 := A1.out.free 3
      go_wp2_with fail
      have W5 := setG_whole A1.out 0 0 0 (.slice none 0 0)
      have B6 := setG_below B3.out (show w.heap.size ≤ w.heap.size + 1 by omega) 0 0 0 (.slice none 0 0)
      have d0 := W5.at_ 0; have d1 := W5.at_ 1; have d2 := W5.at_ 2; have d3 := W5.at_ 3
      unfold setG at d0 d1 d2 d3 B6
      exact bodyPost_ret (v := .tuple #[.agg #[.int .i64 0, .int .i64 0, .int .i64 0, .slice none 0 0], .int .i64 2]) (by simp [results, Try.results24, go_sem, d0, d1, d2, d3]) rfl (RGC.no HE.out (by decide) B6)
    | true =>
      obtain ⟨hb1, hb2⟩ := Gw.inB_iff.1 hby
      have hzk := G.h zs[kn] (List.getElem_mem hkn)
      have hsum : zs.getD kn 0 = zs[kn] := by rw [List.getD_eq_getElem?_getD, List.getElem?_eq_getElem hkn]; rfl
      rw [hby] at CB
      have HKE : Hid (Gw.raK r c s zs kn b = if 5000 < zs[kn] + b then 6 else 0) := Lib.hid (by unfold Gw.raK; rw [hok, hcell, hby, Int.toNat_natCast, hsum]; rfl)
      have CR := Lib.hid (fun W v (hc : GC W w.heap.size r c s v) (hv : IAt W v zs) => l15Raise_any W w.heap.size r c s v zs kn b hc hv hl hkn ⟨by omega, by omega⟩)
      have hsl := hv_sl HV.out
      obtain ⟨bb, bcap, rfl, hcell0⟩ := hsl
      have c4k := hcell0 kn hkn
      have hwr : IntKind.i64.wrap (zs[kn] + b) = zs[kn] + b := IntWalk.i64_in _ ⟨by omega, by omega⟩
      have KC : Hid (∀ W, Below W2.heap.size W2 W → W.cell? ⟨bb, kn, none⟩ = some (.int .i64 zs[kn]) ∧ bb < W.heap.size) := Lib.hid (fun W h => by
        have hlt := World.block_lt_of_cell? W2 _ c4k
        exact ⟨(h.cell (p := ⟨bb, kn, none⟩) hlt).trans c4k, Nat.lt_of_lt_of_le hlt h.size⟩)
      have hknz : (kn : Int) < (zs.length : Int) := by omega
      have HSUM : Hid (zs.getD ((kn : Int).toNat) 0 + b = zs[kn] + b) := Lib.hid (by rw [Int.toNat_natCast, hsum])
      have HKN := Lib.hid hkn
      have hkn2 : kn < zs.length := hkn
      clear hzk hcell0
      generalize zs[kn] = y at *
      clear hkn hkn2
      by_cases h5 : 5000 < y + b
      · have HE : Hid (Gw.raK r c s zs kn b = 6) := Lib.hid (by rw [HKE.out, if_pos h5])
        clear hz hok hcell G hkc hgn hby hsum c4k CR
        go_enter Try.func24, Try.ntmps24
        go_wp2_with fail
        try rw [hW2]
        refine CA.out.mono ?_
        rintro e w3 ⟨rfl, b3⟩
        have B3 := Lib.hid (bt HB.out b3)
        have A1 := Lib.hid (R1.out.all b3)
        obtain ⟨cy, clt⟩ := KC.out w3 b3
        have k3 := (K1.out.all b3).c3
        clear b3
        go_wp2_with fail
        refine (CB.out _).mono ?_
        rintro e w4 ⟨rfl, rfl⟩
        have t0 := A1.out.at_ 0; have t1 := A1.out.at_ 1; have t2 := A1.out.at_ 2; have t3 := A1.out.at_ 3
        have g0 := A1.out.free 0; have g1 := A1.out.free 1; have g2 := A1.out.free 2; have g3 := A1.out.free 3
        go_wp2_with fail
        have W5 := setG_whole A1.out 0 0 0 (.slice none 0 0)
        have B6 := setG_below B3.out (show w.heap.size ≤ w.heap.size + 1 by omega) 0 0 0 (.slice none 0 0)
        have d0 := W5.at_ 0; have d1 := W5.at_ 1; have d2 := W5.at_ 2; have d3 := W5.at_ 3
        unfold setG at d0 d1 d2 d3 B6
        exact bodyPost_ret (v := .tuple #[.agg #[.int .i64 0, .int .i64 0, .int .i64 0, .slice none 0 0], .int .i64 6]) (by simp [results, Try.results24, go_sem, d0, d1, d2, d3]) rfl (RGC.no HE.out (by decide) B6)
      · have HE : Hid (Gw.raK r c s zs kn b = 0) := Lib.hid (by rw [HKE.out, if_neg h5])
        have HZ : Hid (zs.set ((kn : Int).toNat) (zs.getD ((kn : Int).toNat) 0 + b) = zs.set kn (y + b)) := Lib.hid (by rw [HSUM.out, Int.toNat_natCast])
        clear hz hok hcell G hkc hgn hby hsum c4k HSUM
        go_enter Try.func24, Try.ntmps24
        go_wp2_with fail
        try rw [hW2]
        refine CA.out.mono ?_
        rintro e w3 ⟨rfl, b3⟩
        have B3 := Lib.hid (bt HB.out b3)
        have A1 := Lib.hid (R1.out.all b3)
        obtain ⟨cy, clt⟩ := KC.out w3 b3
        have k3 := (K1.out.all b3).c3
        have CRw := Lib.hid (CR.out w3 _ (K1.out.all b3) (HV.out.all b3))
        clear b3 CR
        go_wp2_with fail
        refine (CB.out _).mono ?_
        rintro e w4 ⟨rfl, rfl⟩
        go_wp2_with fail
        refine CRw.out.mono ?_
        rintro e w5 ⟨g, gcap, rfl, o5, b5⟩
        have B5 := Lib.hid (bt B3.out b5)
        have A5 := Lib.hid (A1.out.all b5)
        have gl := (World.ownsRow.lt o5 g (by simp [Value.ownBlock])).1
        have hne : g ≠ w.heap.size + 1 := by have := A1.out.lt; omega
        have O5 := Lib.hid o5
        have S3 := Lib.hid B3.out.size
        have t0 := A5.out.at_ 0; have t1 := A5.out.at_ 1; have t2 := A5.out.at_ 2; have t3 := A5.out.at_ 3
        have g0 := A5.out.free 0; have g1 := A5.out.free 1; have g2 := A5.out.free 2; have g3 := A5.out.free 3
        clear o5 b5 gl cy clt k3 KC
        go_wp2_with fail
        have W5 := setG_whole A5.out r c s (.slice (some ⟨g, 0, none⟩) zs.length gcap)
        have B6 := setG_below B5.out (show w.heap.size ≤ w.heap.size + 1 by omega) r c s (.slice (some ⟨g, 0, none⟩) zs.length gcap)
        have O6 := World.ownsRow.kept O5.out (setG_only _ (w.heap.size + 1) r c s (.slice (some ⟨g, 0, none⟩) zs.length gcap)) (Or.inr (by simp [Value.ownBlock]; omega))
        have d0 := W5.at_ 0; have d1 := W5.at_ 1; have d2 := W5.at_ 2; have d3 := W5.at_ 3
        unfold setG at d0 d1 d2 d3 B6 O6
        exact bodyPost_ret (v := .tuple #[.agg #[.int .i64 r, .int .i64 c, .int .i64 s, .slice (some ⟨g, 0, none⟩) zs.length gcap], .int .i64 0]) (by simp [results, Try.results24, go_sem, d0, d1, d2, d3]) rfl (RGC.yes HE.out rfl (by rw [HZ.out]; exact Own.le O6 S3.out) B6)
  · have HE : Hid (Gw.raK r c s zs k b = Gw.askC r c s zs k) := Lib.hid (by
      unfold Gw.raK Gw.askC at *
      cases h1 : Gw.ok r c s zs with
      | false => rfl
      | true =>
        rw [h1] at hz
        cases h2 : Gw.isCell r c k with
        | false => rfl
        | true => rw [h2] at hz; exact absurd rfl hz)
    have hv : Gw.askC r c s zs k = 1 ∨ Gw.askC r c s zs k = 2 := by
      unfold Gw.askC Cd.cd at *
      split
      · split
        · rename_i h1 h2; rw [h1, h2] at hz; exact absurd rfl hz
        · exact Or.inr rfl
      · exact Or.inl rfl
    clear hz
    generalize Gw.askC r c s zs k = code at *
    rcases hv with rfl | rfl
    all_goals (
      go_enter Try.func24, Try.ntmps24
      go_wp2_with fail
      try rw [hW2]
      refine CA.out.mono ?_
      rintro e w3 ⟨rfl, b3⟩
      have B3 := Lib.hid (bt HB.out b3)
      have A1 := Lib.hid (R1.out.all b3)
      clear b3
      have t0 := A1.out.at_ 0; have t1 := A1.out.at_ 1; have t2 := A1.out.at_ 2; have t3 := A1.out.at_ 3
      have g0 := A1.out.free 0; have g1 := A1.out.free 1; have g2 := A1.out.free 2; have g3 := A1.out.free 3
      go_wp2_with fail
      have W5 := setG_whole A1.out 0 0 0 (.slice none 0 0)
      have B6 := setG_below B3.out (show w.heap.size ≤ w.heap.size + 1 by omega) 0 0 0 (.slice none 0 0)
      have d0 := W5.at_ 0; have d1 := W5.at_ 1; have d2 := W5.at_ 2; have d3 := W5.at_ 3
      unfold setG at d0 d1 d2 d3 B6
      first
        | exact bodyPost_ret (v := .tuple #[.agg #[.int .i64 0, .int .i64 0, .int .i64 0, .slice none 0 0], .int .i64 1]) (by simp [results, Try.results24, go_sem, d0, d1, d2, d3]) rfl (RGC.no HE.out (by decide) B6)
        | exact bodyPost_ret (v := .tuple #[.agg #[.int .i64 0, .int .i64 0, .int .i64 0, .slice none 0 0], .int .i64 2]) (by simp [results, Try.results24, go_sem, d0, d1, d2, d3]) rfl (RGC.no HE.out (by decide) B6))
end Go.Proofs.Ytaldmdammipfjaa

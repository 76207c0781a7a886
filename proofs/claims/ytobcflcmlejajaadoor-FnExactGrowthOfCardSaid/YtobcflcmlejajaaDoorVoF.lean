/-
  GrowthOf and LargestMass (chapter 12), by the program and by the model. The condition, of the program's side: the variable errTooGreat holds a sentinel as errors.New makes it.
-/
import Derived.Test.YtobcflcmlejajaaDoorVoE
namespace Go.Proofs.YtobcflcmlejajaaDoor
open Go.RowKit Go.Shelf
set_option linter.unusedVariables false
set_option maxRecDepth 100000

theorem isShareV_any (x : Int) (w : World) :
    Calls Tryd.prog 92 #[.int .i64 x] w fun e w' => e = .returned (.bool (Ar.inB 0 x 1000)) ∧ w = w' := by
  go_enter Tryd.func92, Tryd.ntmps92
  go_wp2_with (go_at_call 69; refine (within_any _ _ _ _).mono ?_; rintro e w' ⟨rfl, rfl⟩)
  go_ret
  exact ⟨rfl, rfl⟩
set_option maxHeartbeats 1600000 in
theorem partsCode_any (w : World) (v : Value) (xs : List Pat) (t s : Int) (hv : PaSl w v xs) (hl : xs.length ≤ 1048576) :
    Calls Tryd.prog 58 #[v, .int .i64 t, .int .i64 s] w fun e w' => e = .returned (.int .i64 (Vm.askC xs t s)) ∧ Below w.heap.size w w' := by
  have C := Lib.hid (implValidParts_any w v xs hv hl)
  obtain ⟨a, cap, rfl⟩ := hv.form
  clear hv
  unfold Vm.askC Vm.lim Vm.ton
  generalize Vm.okS xs = ok at *
  rcases in_cases 0 t 100000000 with ⟨h1, h2, hi⟩ | ⟨hn, hi⟩ <;> rcases in_cases 0 s 1000 with ⟨k1, k2, ki⟩ | ⟨kn, ki⟩
  all_goals rw [hi, ki]
  all_goals (
    try clear hn
    try clear kn
    have S := Lib.hid (fun b W => statedCd_any ok b W)
    go_enter Tryd.func58, Tryd.ntmps58
    go_wp2_with fail
    refine C.out.mono ?_
    rintro e w1 ⟨rfl, b1⟩
    have B1 := Lib.hid b1
    clear b1
    go_wp2_with (first | (go_at_call 49; refine (isTonnes_any2 _ _).mono ?_; rintro e w' ⟨rfl, rfl⟩) | (go_at_call 92; refine (isShareV_any _ _).mono ?_; rintro e w' ⟨rfl, rfl⟩) | (go_at_call 90; refine (S.out _ _).mono ?_; rintro e w' ⟨rfl, rfl⟩))
    go_ret
    exact ⟨rfl, B1.out⟩)
namespace Vm
def msL (xs : List Pat) (t s : Int) : List Int := if fit xs t s then ms xs t s xs.length else []
theorem msL_f {xs : List Pat} {t s : Int} (h : fit xs t s = false) : msL xs t s = [] := by unfold msL; rw [h]; rfl
theorem msL_t {xs : List Pat} {t s : Int} (h : fit xs t s = true) : msL xs t s = ms xs t s xs.length := by unfold msL; rw [h]; rfl
def mL (xs : List Pat) (t s : Int) : List Int := Cd.ls (okS xs) (lim t s) (msL xs t s)
theorem gC_0 {xs : List Pat} {t s : Int} (h : gC xs t s = 0) : okS xs = true ∧ lim t s = true ∧ fit xs t s = true := by
  unfold gC fitC at h
  cases h1 : okS xs <;> cases h2 : lim t s <;> cases h3 : fit xs t s <;> rw [h1, h2, h3] at h <;> simp [Cd.cd] at h ⊢
end Vm
set_option maxHeartbeats 3200000 in
theorem massesOf_any (a : Addr) (w : World) (v : Value) (xs : List Pat) (t s : Int) (hv : PaSl w v xs) (hl : xs.length ≤ 1048576) (hT : Tg a w) :
    Calls Tryd.prog 54 #[v, .int .i64 t, .int .i64 s] w (RVs w (Vm.mL xs t s) (Vm.gC xs t s)) := by
  have C := Lib.hid (partsCode_any w v xs t s hv hl)
  have M := Lib.hid (fun h1 h2 h3 h4 h5 W (hb : Below w.heap.size w W) => masses_any a W v xs t s (hv.below hb) h1 h2 h3 h4 h5 (hT.below hb))
  have HT := Lib.hid hT
  obtain ⟨a', cap, rfl⟩ := hv.form
  clear hv hT
  unfold Vm.askC at C
  unfold Vm.mL Vm.gC
  cases hq : Vm.okS xs with
  | false =>
    rw [hq, Cd.cd_f] at C
    rw [Cd.cd_f, Cd.ls_f]
    clear hq M
    go_enter Tryd.func54, Tryd.ntmps54
    go_wp2_with fail
    refine C.out.mono ?_
    rintro e w1 ⟨rfl, b1⟩
    have B1 := Lib.hid b1
    clear b1
    go_wp2_with fail
    go_ret2
    exact RVs.no B1.out
  | true =>
    cases hs : Vm.lim t s with
    | false =>
      rw [hq, hs, Cd.cd_tf] at C
      rw [Cd.cd_tf, Cd.ls_tf]
      clear hq hs M
      go_enter Tryd.func54, Tryd.ntmps54
      go_wp2_with fail
      refine C.out.mono ?_
      rintro e w1 ⟨rfl, b1⟩
      have B1 := Lib.hid b1
      clear b1
      go_wp2_with fail
      go_ret2
      exact RVs.no B1.out
    | true =>
      obtain ⟨⟨t1, t2⟩, s1, s2⟩ := Vm.lim_of hs
      rw [hq, hs, Cd.cd_t] at C
      rw [Cd.cd_t, Cd.ls_t]
      have M := Lib.hid (M.out hq t1 t2 s1 s2)
      clear hq hs
      cases hf : Vm.fit xs t s with
      | false =>
        rw [Vm.msL_f hf, Vm.fitC_f hf]
        rw [hf] at M
        clear hf
        go_enter Tryd.func54, Tryd.ntmps54
        go_wp2_with fail
        refine C.out.mono ?_
        rintro e w1 ⟨rfl, b1⟩
        have B1 := Lib.hid b1
        clear b1
        go_wp2_with fail
        refine (M.out _ B1.out).mono ?_
        rintro e w2 ⟨he, b2⟩
        rcases he with ⟨hno, _⟩ | ⟨_, rfl⟩
        case inl => cases hno
        have B2 := Lib.hid (bt B1.out b2)
        have E := Lib.hid (massCode_err a w2 (HT.out.below B2.out))
        clear b2
        go_wp2_with fail
        refine E.out.mono ?_
        rintro e w' ⟨rfl, rfl⟩
        go_wp2_with fail
        go_ret2
        exact RVs.no B2.out
      | true =>
        rw [Vm.msL_t hf, Vm.fitC_t hf]
        rw [hf] at M
        clear hf
        go_enter Tryd.func54, Tryd.ntmps54
        go_wp2_with fail
        refine C.out.mono ?_
        rintro e w1 ⟨rfl, b1⟩
        have B1 := Lib.hid b1
        clear b1
        go_wp2_with fail
        refine (M.out _ B1.out).mono ?_
        rintro e w2 ⟨he, b2⟩
        rcases he with ⟨_, u, rfl, o2⟩ | ⟨hno, _⟩
        case inr => cases hno
        have O2 : Hid (Own w.heap.size w2 u (Vm.ms xs t s xs.length)) := Lib.hid (Go.Joins.ownsRow_le o2 B1.out.size)
        have B2 := Lib.hid (bt B1.out b2)
        have E := Lib.hid (massCode_nil a w2 (HT.out.below B2.out))
        clear b2 o2
        go_wp2_with fail
        refine E.out.mono ?_
        rintro e w' ⟨rfl, rfl⟩
        go_wp2_with fail
        go_ret2
        exact RVs.yes rfl rfl O2.out B2.out
/-! ### a row of the call's own behind its first number -/
/-- a slice that is a row of the call's own but for its first number -/
def OwnT (B : Nat) (w : World) (v : Value) (zs : List Int) : Prop :=
  (v = .slice none 0 0 ∧ zs = []) ∨ ∃ g o cap z0 n1 c1, v = .slice (some ⟨g, o, none⟩) zs.length cap ∧ (o = 1 ∨ zs.length = 0) ∧ Own B w (.slice (some ⟨g, 0, none⟩) n1 c1) (z0 :: zs)
theorem OwnT.belowAll {B : Nat} {w w1 : World} {v : Value} {zs : List Int} (h : OwnT B w v zs) (hb : Below w.heap.size w w1) : OwnT B w1 v zs := by
  rcases h with h | ⟨g, o, cap, z0, n1, c1, rfl, ho, hw⟩
  · exact Or.inl h
  · exact Or.inr ⟨g, o, cap, z0, n1, c1, rfl, ho, own_belowAll hw hb⟩
theorem OwnT.far {B x : Nat} {w w1 : World} {v : Value} {zs : List Int} (h : OwnT B w v zs) (hg : w.grownBy w1 (some x)) (hx : x < B) : OwnT B w1 v zs := by
  rcases h with h | ⟨g, o, cap, z0, n1, c1, rfl, ho, hw⟩
  · exact Or.inl h
  · exact Or.inr ⟨g, o, cap, z0, n1, c1, rfl, ho, own_far hw hg hx⟩
theorem OwnT.le {B B' : Nat} {w : World} {v : Value} {zs : List Int} (h : OwnT B w v zs) (hb : B' ≤ B) : OwnT B' w v zs := by
  rcases h with h | ⟨g, o, cap, z0, n1, c1, rfl, ho, hw⟩
  · exact Or.inl h
  · exact Or.inr ⟨g, o, cap, z0, n1, c1, rfl, ho, Go.Joins.ownsRow_le hw hb⟩
theorem OwnT.sl {B : Nat} {w : World} {v : Value} {zs : List Int} (h : OwnT B w v zs) : Sl w v zs := by
  rcases h with ⟨rfl, rfl⟩ | ⟨g, o, cap, z0, n1, c1, rfl, ho, hw⟩
  · exact Own.sl (B := B) (zs := []) (World.ownsRow_nil _ _ _ _)
  · obtain ⟨g', cap', hv, hb, hg, _, _, hc⟩ := own_open hw (by simp)
    simp only [Value.slice.injEq, Option.some.injEq, Addr.mk.injEq] at hv
    obtain ⟨⟨rfl, -, -⟩, -, -⟩ := hv
    refine Or.inr ⟨g, o, cap, rfl, hg, fun j x hj => ?_⟩
    have hjl : j < zs.length := (List.getElem?_eq_some_iff.1 hj).1
    rcases ho with rfl | h0
    · have := hc (j + 1) (by simp; omega)
      rw [Nat.add_comm 1 j, this]
      obtain ⟨_, rfl⟩ := List.getElem?_eq_some_iff.1 hj
      rfl
    · omega
/-- the numbers of a row that has been marked behind its first one -/
theorem upTo_zero (k0 : Int) : upTo k0 0 = [] := by simp [upTo]
set_option maxHeartbeats 1600000 in
theorem markInt64S_resT (B : Nat) (w : World) (v : Value) (n : Nat) (l : List Int) (k0 : Int) (h0 : 1 ≤ k0) (h1 : k0 ≤ 1000000000) (ho : OwnT B w v l) (hl : l.length ≤ 1048576) (hB : B ≤ w.heap.size) :
    Calls Tryd.prog 21 #[v, .int .i64 k0] w fun e w' => e = .returned (.int .i64 (k0 + l.length)) ∧ OwnT B w' v (upTo k0 l.length) ∧ Below B w w' := by
  rcases ho with ⟨rfl, rfl⟩ | ⟨g, o, cap, z0, n1, c1, rfl, ho, hw⟩
  · have hO : Hid (OwnT B w (.slice none 0 0) (upTo k0 0)) := Lib.hid (by rw [upTo_zero]; exact Or.inl ⟨rfl, rfl⟩)
    rw [List.length_nil]
    go_enter Tryd.func21, Tryd.ntmps21
    go_wp2
    refine wp_loop_rounds 1 ?_
    rw [rounds_succ]
    go_wp2
    go_ret
    exact ⟨ret_int (by simp), hO.out, Below.refl _ _⟩
  · obtain ⟨g', cap', hv, hgB, hg, hnc, _, _⟩ := own_open hw (by simp)
    simp only [Value.slice.injEq, Option.some.injEq, Addr.mk.injEq] at hv
    obtain ⟨⟨rfl, -, -⟩, rfl, rfl⟩ := hv
    have HO : Hid (∃ xs : List Value, w.ownsRow B 2 1 (.slice (some ⟨g, 0, none⟩) (l.length + 1) c1) (l.length + 1) xs ∧ xs.take (0 + 1) = .int .i64 z0 :: iv (upTo k0 0)) := Lib.hid ⟨_, hw, by simp [iv, upTo]⟩
    have HE : Hid (∀ (wr : World), (∃ xs : List Value, wr.ownsRow B 2 1 (.slice (some ⟨g, 0, none⟩) (l.length + 1) c1) (l.length + 1) xs ∧ xs.take (l.length + 1) = .int .i64 z0 :: iv (upTo k0 l.length)) → OwnT B wr (.slice (some ⟨g, o, none⟩) l.length cap) (upTo k0 l.length)) := Lib.hid (by
      rintro wr ⟨xs, hx, ht⟩
      have h1 := hx.1
      have : xs = .int .i64 z0 :: iv (upTo k0 l.length) := by rw [List.take_of_length_le (by omega)] at ht; exact ht
      subst this
      refine Or.inr ⟨g, o, cap, z0, l.length + 1, c1, by rw [upTo_length], by rw [upTo_length]; exact ho, ?_⟩
      unfold Own
      rw [List.length_cons, upTo_length]; exact hx)
    have HN0 : Hid (l.length = 0 ∨ o = 1) := Lib.hid ho.symm
    clear hw ho
    generalize l.length = n at *
    go_enter Tryd.func21, Tryd.ntmps21
    go_wp2
    go_loopw [1, 5] (fun x i wr => ∃ k : Nat, k ≤ n ∧ i = .int .i64 k ∧ x = .int .i64 (k0 + k) ∧ Hid (Below B w wr) ∧ Hid (∃ xs : List Value, wr.ownsRow B 2 1 (.slice (some ⟨g, 0, none⟩) (n + 1) c1) (n + 1) xs ∧ xs.take (k + 1) = .int .i64 z0 :: iv (upTo k0 k))) (fun _ i _ => n - (intOf i).toNat)
    case atStart => exact ⟨0, Nat.zero_le _, rfl, by simp, Lib.hid (Below.refl _ _), HO⟩
    case round =>
      obtain ⟨k, hk, rfl, rfl, hb, hx⟩ := hrel
      by_cases hlt : k < n
      · obtain rfl : o = 1 := by rcases HN0.out with h | h <;> omega
        obtain ⟨xs, hown, htk⟩ := hx.out
        have hxl : k + 1 < xs.length := by have := hown.1; omega
        have c2 : wr.cell? ⟨g, 1 + k, none⟩ = some xs[k + 1] := by rw [Nat.add_comm]; exact (hown.cellAt (k + 1) (by omega)).trans (List.getElem?_eq_getElem hxl)
        have f2 := hown.frozenAt (1 + k)
        have HN : Hid (∃ ys : List Value, (wr.setCell ⟨g, 1 + k, none⟩ (.int .i64 (k0 + k))).ownsRow B 2 1 (.slice (some ⟨g, 0, none⟩) (n + 1) c1) (n + 1) ys ∧ ys.take (k + 1 + 1) = .int .i64 z0 :: iv (upTo k0 (k + 1))) :=
          Lib.hid ⟨_, (by rw [Nat.add_comm 1 k]; exact (hown.stored (k + 1) (.int .i64 (k0 + k))).1), by rw [set_take hxl htk, upTo_snoc]; unfold iv; rw [List.map_append]; rfl⟩
        have hnb : Hid (Below B w (wr.setCell ⟨g, 1 + k, none⟩ (.int .i64 (k0 + k)))) := Lib.hid (hb.out.setCell hgB _)
        clear hx hown htk hb
        generalize xs[k + 1] = old at *
        go_wp2
        exact ⟨⟨k + 1, by omega, by go_num, by go_num, hnb, HN⟩, by simp only [intOf]; omega⟩
      · have hkz : k = n := by omega
        subst hkz
        go_wp2
        go_ret
        exact ⟨rfl, HE.out _ hx.out, hb.out⟩
theorem heldInt64S_ownT (B : Nat) (w : World) (v : Value) (n : Nat) (k0 : Int) (h0 : 1 ≤ k0) (h1 : k0 ≤ 1000000000) (hl : n ≤ 1048576) (ho : OwnT B w v (upTo k0 n)) :
    Calls Tryd.prog 22 #[v, .int .i64 k0] w fun e w' => e = .returned (.int .i64 (k0 + n)) ∧ Below w.heap.size w w' :=
  heldInt64S_any w v n k0 h0 h1 ho.sl hl
/-- how GrowthOf ends -/
def RVt (w : World) (l : List Int) (c : Int) (e : Ending) (w' : World) : Prop := ∃ u, e = .returned (.tuple #[u, .int .i64 c]) ∧ OwnT w.heap.size w' u l ∧ Below w.heap.size w w'
set_option maxHeartbeats 3200000 in
theorem implGrowthOf_any {a : Addr} (w : World) (v : Value) (xs : List Pat) (t s : Int) (hv : PaSl w v xs) (hl : xs.length ≤ 1048576) (hT : Tg a w) :
    Calls Tryd.prog 17 #[v, .int .i64 t, .int .i64 s] w (RVt w (Vm.gL xs t s) (Vm.gC xs t s)) := by
  have M := Lib.hid (massesOf_any a w v xs t s hv hl hT)
  obtain ⟨a', cap, rfl⟩ := hv.form
  clear hv hT
  by_cases hc : Vm.gC xs t s = 0
  · obtain ⟨h1, h2, h3⟩ := Vm.gC_0 hc
    have h24 := Vm.okS_len h1
    have hL : Hid (Vm.gL xs t s = Vm.gr xs t s xs.length) := Lib.hid (by unfold Vm.gL; rw [h1, h2, Cd.ls_t, Vm.grL_t h3])
    have hM : Vm.mL xs t s = t :: Vm.gr xs t s xs.length := by unfold Vm.mL; rw [h1, h2, Cd.ls_t, Vm.msL_t h3, Vm.ms_cons]
    rw [hM, hc] at M
    rw [hL.out, hc]
    generalize Vm.gr xs t s xs.length = zs at *
    clear hc h1 h2 h3 hL hM
    go_enter Tryd.func17, Tryd.ntmps17
    go_wp2_with fail
    refine M.out.mono ?_
    rintro e w1 ⟨u, rfl, o1, b1⟩
    obtain ⟨g, c1, rfl, -, -, hnc, hcm, -⟩ := own_open o1 (by simp)
    have O1 := Lib.hid o1
    have B1 := Lib.hid b1
    have hcm' : c1 ≤ 9223372036854775807 := by unfold maxLen at hcm; omega
    rw [List.length_cons] at hnc O1 ⊢
    clear o1 b1 M hcm
    have g1 : (1 : Int) ≤ ((zs.length + 1 : Nat) : Int) := by omega
    have g2 : ((zs.length + 1 : Nat) : Int) ≤ (c1 : Int) := by omega
    have g3 : zs.length + 1 - 1 = zs.length := by omega
    go_wp2_with fail
    all_goals (
      go_ret2
      refine ⟨_, rfl, Or.inr ⟨g, _, _, t, _, c1, rfl, ?_, O1.out⟩, B1.out⟩
      first
        | exact Or.inl rfl
        | (right; omega))
  · have hcb : (Vm.gC xs t s != 0) = true := by rw [bne_iff_ne]; exact hc
    have hL : Hid (Vm.gL xs t s = []) := Lib.hid (by
      unfold Vm.gC at hc
      unfold Vm.gL
      cases h1 : Vm.okS xs <;> cases h2 : Vm.lim t s <;> try rfl
      cases h3 : Vm.fit xs t s
      · rw [Cd.ls_t, Vm.grL_f h3]
      · rw [h1, h2, Cd.cd_t, Vm.fitC_t h3] at hc; exact absurd rfl hc)
    rw [hL.out]
    generalize Vm.gC xs t s = c at *
    clear hc hL
    go_enter Tryd.func17, Tryd.ntmps17
    go_wp2_with fail
    refine M.out.mono ?_
    rintro e w1 ⟨u, rfl, o1, b1⟩
    have B1 := Lib.hid b1
    clear o1 b1
    go_wp2_with fail
    go_ret2
    exact ⟨_, rfl, Or.inl ⟨rfl, rfl⟩, B1.out⟩
end Go.Proofs.YtobcflcmlejajaaDoor

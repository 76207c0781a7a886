/-
  MissingHours of chapter 4, by the model (a look through all) and by the program (a map by hours). No condition of its own.
-/
import Derived.Test.YtakalehakdffiabObsN
import Derived.Test.YtakalehakdffiabObsI
namespace Go.Proofs.Ytakalehakdffiab
open Go.RowKit Go.Shelf Go.Maps
set_option linter.unusedVariables false
set_option maxRecDepth 100000

def Ob.missR (xs : List Obs) (a b : Int) : List Int := Ob.miss xs a (b - a).toNat
def Ob.cut (l : List Int) : List Int := if l.length ≤ 64 then l else []
def Ob.cutC (l : List Int) : Int := if l.length ≤ 64 then 0 else 5
theorem Ob.cut_t {l : List Int} (h : l.length ≤ 64) : Ob.cut l = l ∧ Ob.cutC l = 0 := by unfold Ob.cut Ob.cutC; rw [if_pos h, if_pos h]; exact ⟨rfl, rfl⟩
theorem Ob.cut_f {l : List Int} (h : ¬ l.length ≤ 64) : Ob.cut l = [] ∧ Ob.cutC l = 5 := by unfold Ob.cut Ob.cutC; rw [if_neg h, if_neg h]; exact ⟨rfl, rfl⟩
def Ob.missL (xs : List Obs) (a b : Int) : List Int := Ob.ls (Ob.okS xs) (Ob.span a b) (Ob.cut (Ob.missR xs a b))
def Ob.missC (xs : List Obs) (a b : Int) : Int := Ob.cd (Ob.okS xs) (Ob.span a b) (Ob.cutC (Ob.missR xs a b))
theorem RI.non {w w' : World} {l' : List Int} {c c' : Int} (hl : l' = []) (hc : c = c') (hb : Below w.heap.size w w') : RI w l' c' (.returned (.tuple #[.slice none 0 0, .int .i64 c])) w' := by subst hl hc; exact RI.no hb
theorem Ob.missL_len {xs : List Obs} {a b : Int} : (Ob.missL xs a b).length ≤ 1048576 := by
  unfold Ob.missL Ob.ls Ob.cut
  split
  · split
    · split <;> first | omega | simp
    · simp
  · simp
theorem Ob.span_of {a b : Int} (h : Ob.span a b = true) : (Ar.inB 0 a 100000 = true ∧ Ar.inB 0 b 100000 = true) ∧ 0 ≤ a ∧ b ≤ 100000 ∧ a ≤ b := by
  unfold Ob.span at h
  simp only [Bool.and_eq_true, decide_eq_true_eq] at h
  have h1 := Ob.inB_iff.1 h.1
  have h2 := Ob.inB_iff.1 h.2.1
  exact ⟨⟨h.1, h.2.1⟩, h1.1, h2.2, h.2.2⟩
theorem Ob.span_no {a b : Int} (h : Ob.span a b = false) : Ar.inB 0 a 100000 = false ∨ (Ar.inB 0 a 100000 = true ∧ Ar.inB 0 b 100000 = false) ∨ (Ar.inB 0 a 100000 = true ∧ Ar.inB 0 b 100000 = true ∧ b < a) := by
  unfold Ob.span at h
  cases h1 : Ar.inB 0 a 100000 <;> cases h2 : Ar.inB 0 b 100000 <;> simp [h1, h2] at h ⊢
  exact h
theorem Ob.miss_yes {xs : List Obs} {a : Int} {k : Nat} (h : Ob.has xs (a + k) = true) : Ob.miss xs a (k + 1) = Ob.miss xs a k := by rw [Ob.miss, if_pos h, List.append_nil]
theorem Ob.miss_not {xs : List Obs} {a : Int} {k : Nat} (h : Ob.has xs (a + k) = false) : Ob.miss xs a (k + 1) = Ob.miss xs a k ++ [a + k] := by rw [Ob.miss, if_neg (by rw [h]; decide)]
theorem Ob.miss_full {xs : List Obs} {a : Int} {k n : Nat} (h : Ob.has xs (a + k) = false) (hk : k < n) (hl : (Ob.miss xs a k).length = 64) : ¬ (Ob.miss xs a n).length ≤ 64 := by
  have := Ob.miss_mono xs a (show k + 1 ≤ n by omega)
  rw [Ob.miss_not h, List.length_append, hl] at this
  simp at this; omega
set_option maxHeartbeats 3200000 in
theorem specMissingHours_any (w : World) (v : Value) (xs : List Obs) (p q : Int) (hv : ObSl w v xs) (hl : xs.length ≤ 1048576) :
    Calls Try.prog 46 #[v, .int .i64 p, .int .i64 q] w (RI w (Ob.missL xs p q) (Ob.missC xs p q)) := by
  obtain ⟨i0, hi, hz0, hz1, hz2⟩ := info_parts info_i64
  have C := Lib.hid (l04Ok_any w v xs hv hl)
  obtain ⟨a, cap, rfl⟩ := hv.form
  have HV := Lib.hid hv
  clear hv
  unfold Ob.missL Ob.missC
  cases hq : Ob.okS xs with
  | false =>
    rw [hq] at C
    rw [ls_f, Ob.cd_f]
    clear hq
    go_enter Try.func46, Try.ntmps46
    go_wp2_with fail
    refine C.out.mono ?_
    rintro e w1 ⟨rfl, b1⟩
    have B1 := Lib.hid b1
    clear b1
    go_wp2_with fail
    go_ret2
    exact RI.no B1.out
  | true =>
    have h48 := Ob.len_ok hq
    rw [hq] at C
    clear hq
    cases hs : Ob.span p q with
    | false =>
      have h3 := Ob.span_no hs
      rw [ls_tf, Ob.cd_tf]
      clear hs
      rcases h3 with h1 | ⟨h1, h2⟩ | ⟨h1, h2, h3⟩
      all_goals
        go_enter Try.func46, Try.ntmps46
        go_wp2_with fail
        refine C.out.mono ?_
        rintro e w1 ⟨rfl, b1⟩
        have B1 := Lib.hid b1
        clear b1
        go_wp2_with (go_at_call 93; refine (l04Hour_any _ _).mono ?_; rintro e w' ⟨rfl, rfl⟩)
        go_ret2
        exact RI.no B1.out
    | true =>
      obtain ⟨⟨i1, i2⟩, p1, q1, pq⟩ := Ob.span_of hs
      rw [ls_t, Ob.cd_t]
      clear hs
      unfold Ob.missR
      obtain ⟨n, hn⟩ : ∃ n : Nat, q = p + n := ⟨(q - p).toNat, by omega⟩
      have e1 : q ≤ p + (n : Int) := by omega
      have e2 : p + (n : Int) ≤ q := by omega
      rw [show (q - p).toNat = n by omega]
      clear hn
      have hnb : ¬ q < p := by omega
      go_enter Try.func46, Try.ntmps46
      go_wp2_with fail
      refine C.out.mono ?_
      rintro e w1 ⟨rfl, b1⟩
      have B1 := Lib.hid (b1.alloc b1.size (.cells #[] 2))
      have O1 : Hid ((w1.alloc (.cells #[] 2)).ownsRow w.heap.size 2 1 (.slice (some ⟨w1.heap.size, 0, none⟩) 0 0) 0 (iv (Ob.miss xs p 0))) := Lib.hid (World.ownsRow_lit _ _ _ b1.size (by decide) (by decide))
      clear b1
      go_wp2_with (go_at_call 93; refine (l04Hour_any _ _).mono ?_; rintro e w' ⟨rfl, rfl⟩)
      go_loopw [8, 9, 10, 11] (fun u hh _ _ wr => ∃ (k g m cap' : Nat), k ≤ n ∧ hh = .int .i64 (p + k) ∧ u = .slice (some ⟨g, 0, none⟩) m cap' ∧ m ≤ 64 ∧ Hid (m = (Ob.miss xs p k).length) ∧ Hid (wr.ownsRow w.heap.size 2 1 (.slice (some ⟨g, 0, none⟩) m cap') m (iv (Ob.miss xs p k))) ∧ Hid (Below w.heap.size w wr)) (fun _ hh _ _ _ => n - (intOf hh - p).toNat)
      case atStart => exact ⟨0, w1.heap.size, 0, 0, Nat.zero_le _, by simp, rfl, by omega, Lib.hid rfl, O1, B1⟩
      case round =>
        obtain ⟨k, g, m, cap', hk, rfl, rfl, hm, hm0, ho, hbw⟩ := hrel
        by_cases hlt : k < n
        · have hlz : p + (k : Int) < q := by omega
          obtain ⟨wo, hwo⟩ : ∃ wo : World, wo = wr := ⟨_, rfl⟩
          subst hwo
          go_wp2
          go_loop [10, 11] (fun f i => ∃ (j : Nat), j ≤ xs.length ∧ i = .int .i64 j ∧ f = .bool (Ob.has (xs.take j) (p + k))) (fun _ i => xs.length - (intOf i).toNat)
          case atStart => exact ⟨0, Nat.zero_le _, rfl, rfl⟩
          case round =>
            obtain ⟨j, hj, rfl, rfl⟩ := hrel
            by_cases hjl : j < xs.length
            · obtain ⟨b, off, cap2, hn', hbl, hcc⟩ := (HV.out.below hbw.out).at_ hjl
              simp only [Value.slice.injEq] at hn'
              obtain ⟨rfl, -, rfl⟩ := hn'
              obtain ⟨c0, c1, c2, c3⟩ := hcc j hjl
              have hs := Lib.hid (Ob.has_take hjl (p + k))
              clear hcc
              cases hf : Ob.has (xs.take j) (p + k) with
              | true =>
                have h1 : Hid (Ob.has (xs.take (j + 1)) (p + k) = true) := Lib.hid (by rw [hs.out, hf]; rfl)
                clear hf
                go_wp2
                exact ⟨⟨j + 1, by omega, by go_num, by rw [h1.out]⟩, by simp only [intOf]; omega⟩
              | false =>
                have h1 : Hid (Ob.has (xs.take (j + 1)) (p + k) = (xs[j].ho == p + k)) := Lib.hid (by rw [hs.out, hf]; rfl)
                clear hf
                go_wp2
                exact ⟨⟨j + 1, by omega, by go_num, by rw [h1.out]⟩, by simp only [intOf]; omega⟩
            · have hje : j = xs.length := by omega
              subst hje
              rw [List.take_length]
              cases hf : Ob.has xs (p + k) with
              | true =>
                have h1 := Lib.hid (Ob.miss_yes hf)
                clear hf
                go_wp2
                exact ⟨⟨k + 1, g, m, cap', by omega, congrArg (Value.int .i64) (by push_cast; omega), rfl, hm, Lib.hid (by rw [h1.out]; exact hm0.out), Lib.hid (by rw [h1.out]; exact ho.out), hbw⟩, by simp only [intOf]; omega⟩
              | false =>
                by_cases hfull : m = 64
                · have hf64 : ((m : Int) == 64) = true := by rw [hfull]; rfl
                  have hr := Lib.hid (Ob.miss_full (n := n) hf hlt (by rw [← hm0.out]; exact hfull))
                  clear hf
                  go_wp2
                  go_ret2
                  exact RI.non (Ob.cut_f hr.out).1 (Ob.cut_f hr.out).2.symm hbw.out
                · have hf64 : ((m : Int) == 64) = false := beq_eq_false_iff_ne.2 (by omega)
                  have h1 := Lib.hid (Ob.miss_not hf)
                  clear hf
                  go_wp2_with (at_builtin; refine wpList_append_own _ rfl _ _ 51 rfl w.heap.size 2 i0 (.int .i64 0) 1 8 Try.underlying51 hi hz0 hz1 hz2 rfl (by decide) _ _ _ rfl (ho.out.alloc _) ⟨wo.heap.size, 0, none⟩ 1 1 [.int .i64 (p + k)] rfl rfl (row_new _ [_] _) (iv_cell [p + (k : Int)]) ?c3 ?c4 ?c5 ?_)
                  case c3 => unfold maxLen; omega
                  case c4 => omega
                  case c5 => have := hbw.out.size; first | omega | (simp; omega)
                  intro v' w3 hown' hgrow _
                  have hbb := (hbw.out.alloc hbw.out.size _).grown hgrow (by have := hbw.out.size; simp; omega) (fun j hj => (ho.out.lt j hj).1)
                  rcases Go.Joins.ownsRow_forms hown' with ⟨-, h0⟩ | ⟨g', cap'', rfl⟩
                  · omega
                  · have O3 : Hid (w3.ownsRow w.heap.size 2 1 (.slice (some ⟨g', 0, none⟩) (m + 1) cap'') (m + 1) (iv (Ob.miss xs p (k + 1)))) := Lib.hid (by rw [h1.out, iv_append]; exact hown')
                    have B3 := Lib.hid hbb
                    have L3 : Hid (m + 1 = (Ob.miss xs p (k + 1)).length) := Lib.hid (by rw [h1.out, List.length_append, ← hm0.out]; rfl)
                    clear hown' hgrow hbb
                    go_wp2
                    exact ⟨⟨k + 1, g', m + 1, cap'', by omega, congrArg (Value.int .i64) (by push_cast; omega), rfl, by omega, L3, O3, B3⟩, by simp only [intOf]; omega⟩
        · have hlz : ¬ p + (k : Int) < q := by omega
          have hkn : k = n := by omega
          subst hkn
          have hct := Lib.hid (Ob.cut_t (l := Ob.miss xs p k) (by rw [← hm0.out]; exact hm))
          go_wp2
          go_ret2
          exact RI.yes hct.out.1 hct.out.2.symm (by unfold Own; rw [← hm0.out]; exact ho.out) hbw.out
set_option maxHeartbeats 3200000 in
theorem implMissingHours_any (w : World) (v : Value) (xs : List Obs) (p q : Int) (hv : ObSl w v xs) (hl : xs.length ≤ 1048576) :
    Calls Try.prog 38 #[v, .int .i64 p, .int .i64 q] w (RI w (Ob.missL xs p q) (Ob.missC xs p q)) := by
  obtain ⟨i0, hi, hz0, hz1, hz2⟩ := info_parts info_i64
  have C := fun t => Lib.hid (observedCode_any w v xs t hv hl)
  obtain ⟨a, cap, rfl⟩ := hv.form
  have HV := Lib.hid hv
  clear hv
  unfold Ob.missL Ob.missC
  cases hq : Ob.okS xs with
  | false =>
    rw [hq] at C
    rw [ls_f, Ob.cd_f]
    clear hq
    go_enter Try.func38, Try.ntmps38
    go_wp2_with (go_at_call 89; refine (isObservedSpan_any _ _ _).mono ?_; rintro e w' ⟨rfl, rfl⟩)
    refine (C _).out.mono ?_
    rintro e w1 ⟨rfl, b1⟩
    have B1 := Lib.hid b1
    clear b1
    simp only [Ob.cd_f]
    go_wp2_with fail
    go_ret2
    exact RI.no B1.out
  | true =>
    have h48 := Ob.len_ok hq
    have HF := Lib.hid ((Ob.okS_iff xs).1 hq).2.1
    rw [hq] at C
    clear hq
    cases hs : Ob.span p q with
    | false =>
      rw [ls_tf, Ob.cd_tf]
      go_enter Try.func38, Try.ntmps38
      go_wp2_with (go_at_call 89; refine (isObservedSpan_any _ _ _).mono ?_; rintro e w' ⟨rfl, rfl⟩)
      refine (C _).out.mono ?_
      rintro e w1 ⟨rfl, b1⟩
      have B1 := Lib.hid b1
      clear b1
      simp only [Ob.cd_tf]
      go_wp2_with fail
      go_ret2
      exact RI.no B1.out
    | true =>
      obtain ⟨⟨i1, i2⟩, p1, q1, pq⟩ := Ob.span_of hs
      rw [ls_t, Ob.cd_t]
      unfold Ob.missR
      obtain ⟨n, hn⟩ : ∃ n : Nat, q = p + n := ⟨(q - p).toNat, by omega⟩
      have e1 : q ≤ p + (n : Int) := by omega
      have e2 : p + (n : Int) ≤ q := by omega
      rw [show (q - p).toNat = n by omega]
      clear hn
      go_enter Try.func38, Try.ntmps38
      go_wp2_with (go_at_call 89; refine (isObservedSpan_any _ _ _).mono ?_; rintro e w' ⟨rfl, rfl⟩)
      refine (C _).out.mono ?_
      rintro e w1 ⟨rfl, b1⟩
      have B1 := Lib.hid b1
      clear b1
      simp only [Ob.cd_t]
      go_wp2_with fail
      refine (snowByHour_any Unit w1 _ xs (HV.out.below B1.out) h48 HF.out).mono ?_
      rintro e w2 ⟨rfl, m2, b2⟩
      have B2 := Lib.hid (bt B1.out b2)
      have M2 := Lib.hid m2
      have hgs := World.ownsMap.lt m2
      have hws := B1.out.size
      clear b2 m2
      go_wp2_with (at_make; refine wpList_make_own _ rfl _ _ 51 rfl (w1.heap.size + 1) 2 i0 (.int .i64 0) 1 Try.underlying51 hi hz0 hz1 .i64 .i64 _ 64 rfl rfl rfl ?c1 ?c2 ?c3 ?_)
      case c1 => rw [hz2]; omega
      case c2 => unfold maxLen; omega
      case c3 => omega
      intro w3 hown hg
      have M3 : Hid (MapIn Unit w3 w1.heap.size xs.length xs) := Lib.hid (World.ownsMap.kept M2.out hg (by simp))
      have B3 := Lib.hid (B2.out.grown hg B2.out.size (fun j hj => by cases hj))
      have O3 : Hid (w3.ownsRow (w1.heap.size + 1) 2 1 (.slice (some ⟨w2.heap.size, 0, none⟩) 0 64) 0 (iv (Ob.miss xs p 0))) := Lib.hid hown
      clear hown hg
      go_wp2_with fail
      generalize w1.heap.size = gm at *
      go_loopw [10, 29] (fun u t wr => ∃ (k g m cap' : Nat), k ≤ n ∧ t = .int .i64 k ∧ u = .slice (some ⟨g, 0, none⟩) m cap' ∧ m ≤ 64 ∧ Hid (m = (Ob.miss xs p k).length) ∧ Hid (wr.ownsRow (gm + 1) 2 1 (.slice (some ⟨g, 0, none⟩) m cap') m (iv (Ob.miss xs p k))) ∧ Hid (MapIn Unit wr gm xs.length xs) ∧ Hid (Below w.heap.size w wr)) (fun _ t _ => n - (intOf t).toNat)
      case atStart => exact ⟨0, w2.heap.size, 0, 64, Nat.zero_le _, rfl, rfl, by omega, Lib.hid rfl, O3, M3, B3⟩
      case round =>
        obtain ⟨k, g, m, cap', hk, rfl, rfl, hm, hm0, ho, hM, hbw⟩ := hrel
        by_cases hlt : k < n
        · have hlz : (k : Int) < q - p := by omega
          have hkey : Hid (keyOf Try.prog 2 (.int .i64 (p + (k : Int))) = some (kH (p + k))) := Lib.hid (keyOf_int_mk Try.underlying2 (WalkArith.wf_i64 (by omega)))
          cases hf : Ob.has xs (p + k) with
          | true =>
            have h1 := Lib.hid (Ob.miss_yes hf)
            have hhas : Hid (Maps.has (mapOf Unit xs) (kH (p + k)) = true) := Lib.hid (by rw [has_mapOf, hf])
            clear hf
            go_wp2_with (at_lookup; refine wpList_lookup_own_ok_int _ rfl _ _ 73 rfl 2 2 .i64 law64 Try.underlying73 Try.underlying2 (zero64 _) gm xs.length (mapOf Unit xs) rfl hM.out _ (kH (p + k)) rfl hkey.out ?_; intro c hat hwc; rw [hhas.out]; clear hat hwc)
            exact ⟨⟨k + 1, g, m, cap', by omega, by go_num, rfl, hm, Lib.hid (by rw [h1.out]; exact hm0.out), Lib.hid (by rw [h1.out]; exact ho.out), hM, hbw⟩, by simp only [intOf]; omega⟩
          | false =>
            have hhas : Hid (Maps.has (mapOf Unit xs) (kH (p + k)) = false) := Lib.hid (by rw [has_mapOf, hf])
            by_cases hfull : m = 64
            · have hf64 : ((m : Int) == 64) = true := by rw [hfull]; rfl
              have hr := Lib.hid (Ob.miss_full (n := n) hf hlt (by rw [← hm0.out]; exact hfull))
              clear hf
              go_wp2_with (at_lookup; refine wpList_lookup_own_ok_int _ rfl _ _ 73 rfl 2 2 .i64 law64 Try.underlying73 Try.underlying2 (zero64 _) gm xs.length (mapOf Unit xs) rfl hM.out _ (kH (p + k)) rfl hkey.out ?_; intro c hat hwc; rw [hhas.out]; clear hat hwc)
              go_ret2
              exact RI.non (Ob.cut_f hr.out).1 (Ob.cut_f hr.out).2.symm hbw.out
            · have hf64 : ((m : Int) == 64) = false := beq_eq_false_iff_ne.2 (by omega)
              have h1 := Lib.hid (Ob.miss_not hf)
              clear hf
              go_wp2_with (first | (at_lookup; refine wpList_lookup_own_ok_int _ rfl _ _ 73 rfl 2 2 .i64 law64 Try.underlying73 Try.underlying2 (zero64 _) gm xs.length (mapOf Unit xs) rfl hM.out _ (kH (p + k)) rfl hkey.out ?_; intro c hat hwc; rw [hhas.out]; clear hat hwc) | (at_builtin; refine wpList_append_own _ rfl _ _ 51 rfl (gm + 1) 2 i0 (.int .i64 0) 1 8 Try.underlying51 hi hz0 hz1 hz2 rfl (by decide) _ _ _ rfl (ho.out.alloc _) ⟨wr.heap.size, 0, none⟩ 1 1 [.int .i64 (p + k)] rfl rfl (row_new _ [_] _) (iv_cell [p + (k : Int)]) ?c3 ?c4 ?c5 ?_))
              case c3 => unfold maxLen; omega
              case c4 => omega
              case c5 => have := World.ownsMap.lt hM.out; first | omega | (simp; omega)
              intro v' w5 hown' hgrow _
              have hbb := (hbw.out.alloc hbw.out.size _).grown hgrow (by have := hbw.out.size; simp; omega) (fun j hj => by have := (ho.out.lt j hj).1; omega)
              have hmm : MapIn Unit w5 gm xs.length xs := World.ownsMap.kept (World.ownsMap.alloc hM.out _) hgrow (fun e => by have := (ho.out.lt gm e.symm).1; omega)
              rcases Go.Joins.ownsRow_forms hown' with ⟨-, h0⟩ | ⟨g', cap'', rfl⟩
              · omega
              · have O5 : Hid (w5.ownsRow (gm + 1) 2 1 (.slice (some ⟨g', 0, none⟩) (m + 1) cap'') (m + 1) (iv (Ob.miss xs p (k + 1)))) := Lib.hid (by rw [h1.out, iv_append]; exact hown')
                have B5 := Lib.hid hbb
                have M5 := Lib.hid hmm
                have L5 : Hid (m + 1 = (Ob.miss xs p (k + 1)).length) := Lib.hid (by rw [h1.out, List.length_append, ← hm0.out]; rfl)
                clear hown' hgrow hbb hmm
                go_wp2
                exact ⟨⟨k + 1, g', m + 1, cap'', by omega, by go_num, rfl, by omega, L5, O5, M5, B5⟩, by simp only [intOf]; omega⟩
        · have hlz : ¬ (k : Int) < q - p := by omega
          have hkn : k = n := by omega
          subst hkn
          have hct := Lib.hid (Ob.cut_t (l := Ob.miss xs p k) (by rw [← hm0.out]; exact hm))
          go_wp2
          go_ret2
          exact RI.yes hct.out.1 hct.out.2.symm (Go.Joins.ownsRow_le (by rw [← hm0.out]; exact ho.out) (by omega)) hbw.out
end Go.Proofs.Ytakalehakdffiab

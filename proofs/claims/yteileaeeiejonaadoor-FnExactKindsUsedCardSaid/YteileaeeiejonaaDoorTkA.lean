/-
  Tests by the model: valid ones, their classes. No condition of its own.
-/
import Derived.Test.YteileaeeiejonaaDoorTstS
import Derived.Test.YteileaeeiejonaaDoorTstL
import Derived.Test.YteileaeeiejonaaDoorTk
import Derived.Test.YteileaeeiejonaaDoorCd
import Derived.Deep.QuietTactic
import Derived.BigQuiet
import Derived.StillTailTactics
import Derived.Deep.RegionHeld3
namespace Go.Proofs.YteileaeeiejonaaDoor
open Go.RowKit Go.ChangeShapes Go.WideShapes Go.Deep
set_option linter.unusedVariables false
set_option maxRecDepth 100000

theorem hourS_any (n : Int) (w : World) :
    Calls Tryd.prog 59 #[.int .i64 n] w fun e w' => e = .returned (.bool (Ar.inB 0 n 100000)) ∧ w = w' := by
  go_enter Tryd.func59, Tryd.ntmps59
  go_wp2_with (go_at_call 88; refine (l00In_any _ _ _ _).mono ?_; rintro e w' ⟨rfl, rfl⟩)
  go_ret
  exact ⟨rfl, rfl⟩
theorem l08Near_any (n : Int) (w : World) :
    Calls Tryd.prog 60 #[.int .i64 n] w fun e w' => e = .returned (.bool (Ar.inB 0 n 300)) ∧ w = w' := by
  go_enter Tryd.func60, Tryd.ntmps60
  go_wp2_with (go_at_call 88; refine (l00In_any _ _ _ _).mono ?_; rintro e w' ⟨rfl, rfl⟩)
  go_ret
  exact ⟨rfl, rfl⟩
theorem kinds (k : Int) : (k = 3 ∧ (k == 3) = true) ∨ (k = 2 ∧ (k == 3) = false ∧ (k == 2) = true ∧ (k == 1) = false) ∨ (k = 1 ∧ (k == 3) = false ∧ (k == 2) = false ∧ (k == 1) = true) ∨ (¬ (1 ≤ k ∧ k ≤ 3) ∧ (k == 3) = false ∧ (k == 2) = false ∧ (k == 1) = false) := by
  by_cases h3 : k = 3
  · exact Or.inl ⟨h3, beq_iff_eq.2 h3⟩
  · by_cases h2 : k = 2
    · exact Or.inr (Or.inl ⟨h2, beq_eq_false_iff_ne.2 h3, beq_iff_eq.2 h2, beq_eq_false_iff_ne.2 (by omega)⟩)
    · by_cases h1 : k = 1
      · exact Or.inr (Or.inr (Or.inl ⟨h1, beq_eq_false_iff_ne.2 h3, beq_eq_false_iff_ne.2 h2, beq_iff_eq.2 h1⟩))
      · exact Or.inr (Or.inr (Or.inr ⟨by omega, beq_eq_false_iff_ne.2 h3, beq_eq_false_iff_ne.2 h2, beq_eq_false_iff_ne.2 h1⟩))
set_option maxHeartbeats 3200000 in
theorem l08One_any (x : Tst) (b o : Nat) (w : World) (h : TeCells w b o x) :
    Calls Tryd.prog 53 #[.pointer (some ⟨b, o, none⟩)] w fun e w' => e = .returned (.bool (Tq.okT x)) ∧ w = w' := by
  obtain ⟨c0, c1, c2, c3, c4⟩ := h
  have CQ := fun W => Lib.hid (l00In_any x.qu 1 3 W)
  have CD := fun W => Lib.hid (l00In_any x.de 1 300 W)
  have CH := fun W => Lib.hid (hourS_any x.ho W)
  cases hq : Ar.inB 1 x.qu 3 with
  | false =>
    have hr := Lib.hid (Tq.okT_q hq)
    rw [hq] at CQ
    clear hq
    go_enter Tryd.func53, Tryd.ntmps53
    go_wp2_with fail
    refine (CQ _).out.mono ?_
    rintro e w' ⟨rfl, rfl⟩
    go_wp2_with fail
    go_ret
    exact ⟨ret_bool hr.out.symm, rfl⟩
  | true =>
    have HQ := Lib.hid hq
    rw [hq] at CQ
    clear hq
    cases hd : Ar.inB 1 x.de 300 with
    | false =>
      have hr := Lib.hid (Tq.okT_d hd)
      rw [hd] at CD
      clear hd
      go_enter Tryd.func53, Tryd.ntmps53
      go_wp2_with fail
      refine (CQ _).out.mono ?_
      rintro e w' ⟨rfl, rfl⟩
      go_wp2_with fail
      refine (CD _).out.mono ?_
      rintro e w' ⟨rfl, rfl⟩
      go_wp2_with fail
      go_ret
      exact ⟨ret_bool hr.out.symm, rfl⟩
    | true =>
      have HD := Lib.hid hd
      rw [hd] at CD
      clear hd
      cases hh : Ar.inB 0 x.ho 100000 with
      | false =>
        have hr := Lib.hid (Tq.okT_h hh)
        rw [hh] at CH
        clear hh
        go_enter Tryd.func53, Tryd.ntmps53
        go_wp2_with fail
        refine (CQ _).out.mono ?_
        rintro e w' ⟨rfl, rfl⟩
        go_wp2_with fail
        refine (CD _).out.mono ?_
        rintro e w' ⟨rfl, rfl⟩
        go_wp2_with fail
        refine (CH _).out.mono ?_
        rintro e w' ⟨rfl, rfl⟩
        go_wp2_with fail
        go_ret
        exact ⟨ret_bool hr.out.symm, rfl⟩
      | true =>
        have HH := Lib.hid hh
        rw [hh] at CH
        clear hh
        rcases kinds x.ki with ⟨hk, k3⟩ | ⟨hk, k3, k2, k1⟩ | ⟨hk, k3, k2, k1⟩ | ⟨hk, k3, k2, k1⟩
        · have hr := Lib.hid (Tq.okT_3 hk HQ.out HD.out HH.out)
          have CS := fun W => Lib.hid (l00In_any x.sc 1 7 W)
          generalize Ar.inB 1 x.sc 7 = q at *
          clear hk
          go_enter Tryd.func53, Tryd.ntmps53
          go_wp2_with fail
          refine (CQ _).out.mono ?_
          rintro e w' ⟨rfl, rfl⟩
          go_wp2_with fail
          refine (CD _).out.mono ?_
          rintro e w' ⟨rfl, rfl⟩
          go_wp2_with fail
          refine (CH _).out.mono ?_
          rintro e w' ⟨rfl, rfl⟩
          go_wp2_with fail
          refine (CS _).out.mono ?_
          rintro e w' ⟨rfl, rfl⟩
          go_wp2_with fail
          go_ret
          exact ⟨ret_bool hr.out.symm, rfl⟩
        · have hr := Lib.hid (Tq.okT_12 (Or.inr hk) HQ.out HD.out HH.out)
          have CS := fun W => Lib.hid (l00In_any x.sc 0 31 W)
          generalize Ar.inB 0 x.sc 31 = q at *
          clear hk
          go_enter Tryd.func53, Tryd.ntmps53
          go_wp2_with fail
          refine (CQ _).out.mono ?_
          rintro e w' ⟨rfl, rfl⟩
          go_wp2_with fail
          refine (CD _).out.mono ?_
          rintro e w' ⟨rfl, rfl⟩
          go_wp2_with fail
          refine (CH _).out.mono ?_
          rintro e w' ⟨rfl, rfl⟩
          go_wp2_with fail
          refine (CS _).out.mono ?_
          rintro e w' ⟨rfl, rfl⟩
          go_wp2_with fail
          go_ret
          exact ⟨ret_bool hr.out.symm, rfl⟩
        · have hr := Lib.hid (Tq.okT_12 (Or.inl hk) HQ.out HD.out HH.out)
          have CS := fun W => Lib.hid (l00In_any x.sc 0 31 W)
          generalize Ar.inB 0 x.sc 31 = q at *
          clear hk
          go_enter Tryd.func53, Tryd.ntmps53
          go_wp2_with fail
          refine (CQ _).out.mono ?_
          rintro e w' ⟨rfl, rfl⟩
          go_wp2_with fail
          refine (CD _).out.mono ?_
          rintro e w' ⟨rfl, rfl⟩
          go_wp2_with fail
          refine (CH _).out.mono ?_
          rintro e w' ⟨rfl, rfl⟩
          go_wp2_with fail
          refine (CS _).out.mono ?_
          rintro e w' ⟨rfl, rfl⟩
          go_wp2_with fail
          go_ret
          exact ⟨ret_bool hr.out.symm, rfl⟩
        · have hr := Lib.hid (Tq.okT_n hk)
          clear hk
          go_enter Tryd.func53, Tryd.ntmps53
          go_wp2_with fail
          refine (CQ _).out.mono ?_
          rintro e w' ⟨rfl, rfl⟩
          go_wp2_with fail
          refine (CD _).out.mono ?_
          rintro e w' ⟨rfl, rfl⟩
          go_wp2_with fail
          refine (CH _).out.mono ?_
          rintro e w' ⟨rfl, rfl⟩
          go_wp2_with fail
          go_ret
          exact ⟨ret_bool hr.out.symm, rfl⟩
theorem cls_of {x : Tst} {l : List Int} (h : Tq.lims x.ki = l) : Tq.cls x = max 1 (min 4 (1 + Tq.cnt x.sc l + x.qu - 2)) := by unfold Tq.cls; rw [h]
set_option maxHeartbeats 6400000 in
theorem l08Class_any (x : Tst) (b o : Nat) (w : World) (h : TeCells w b o x) (hq1 : 1 ≤ x.qu) (hq2 : x.qu ≤ 3) :
    Calls Tryd.prog 54 #[.pointer (some ⟨b, o, none⟩)] w fun e w' => e = .returned (.int .i64 (Tq.cls x)) ∧ Below w.heap.size w w' := by
  have hbw := World.block_lt_of_cell? w _ h.c0
  obtain ⟨c0, -, -, -, -⟩ := id h
  have CMx := Lib.hid (fun a b c W h => mx_any a b c W h)
  have CMn := Lib.hid (fun a b c W h => mn_any a b c W h)
  rcases kinds x.ki with ⟨hk, k3⟩ | ⟨hk, k3, k2, k1⟩ | ⟨hk, k3, k2, k1⟩ | ⟨hk, k3, k2, k1⟩
  · have hlim : Tq.lims x.ki = [2, 4, 6] := by unfold Tq.lims; rw [if_pos hk]
    have hr := Lib.hid (cls_of hlim)
    have HB := Lib.hid (((Below.refl w.heap.size w).alloc (Nat.le_refl _) (.cells #[.int .i64 10, .int .i64 20, .int .i64 30] 2)).alloc (by simp) (.cells #[.int .i64 2, .int .i64 4, .int .i64 6] 2))
    have HC : Hid (∀ (k : Nat) (hk : k < 3), ((w.alloc (.cells #[.int .i64 10, .int .i64 20, .int .i64 30] 2)).alloc (.cells #[.int .i64 2, .int .i64 4, .int .i64 6] 2)).cell? ⟨w.heap.size + 1, k, none⟩ = some (.int .i64 (([2, 4, 6] : List Int)[k]'(by simpa using hk)))) := Lib.hid (fun k hk => by
      have h := fun j => cell_of_row _ (w.alloc (.cells #[.int .i64 10, .int .i64 20, .int .i64 30] 2)).heap.size j _ 2 (0, 0) (heap_alloc_new (w.alloc (.cells #[.int .i64 10, .int .i64 20, .int .i64 30] 2)) (.cells #[.int .i64 2, .int .i64 4, .int .i64 6] 2))
      simp only [World.size_alloc] at h
      rcases (show k = 0 ∨ k = 1 ∨ k = 2 by omega) with rfl | rfl | rfl
      · exact h 0
      · exact h 1
      · exact h 2)
    have HX := Lib.hid (h.below HB.out hbw)
    have HXl := Lib.hid (Nat.lt_of_lt_of_le hbw HB.out.size)
    clear hlim hk
    go_enter Tryd.func54, Tryd.ntmps54
    go_wp2
    go_loopw [4, 5] (fun c i wr => ∃ k : Nat, k ≤ 3 ∧ c = .int .i64 (1 + Tq.cnt x.sc (([2, 4, 6] : List Int).take k)) ∧ i = .int .i64 k ∧ Hid (Below ((w.alloc (.cells #[.int .i64 10, .int .i64 20, .int .i64 30] 2)).alloc (.cells #[.int .i64 2, .int .i64 4, .int .i64 6] 2)).heap.size ((w.alloc (.cells #[.int .i64 10, .int .i64 20, .int .i64 30] 2)).alloc (.cells #[.int .i64 2, .int .i64 4, .int .i64 6] 2)) wr)) (fun _ i _ => 3 - (intOf i).toNat)
    case atStart => exact ⟨0, by omega, by simp [Tq.cnt], rfl, Lib.hid (Below.refl _ _)⟩
    case round =>
      obtain ⟨k, hk, rfl, rfl, hb⟩ := hrel
      have hxr := (HX.out.below hb.out HXl.out)
      have hbd := Tq.cnt_bd x.sc (([2, 4, 6] : List Int).take k)
      have hlen : (([2, 4, 6] : List Int).take k).length ≤ 3 := by simp; omega
      by_cases hlt : k < 3
      · have hkz : (k : Int) < 3 := by omega
        have hc : wr.cell? ⟨w.heap.size + 1, k, none⟩ = _ := (hb.out.cell (p := ⟨w.heap.size + 1, k, none⟩) (by simp)).trans (HC.out k hlt)
        have c1 := hxr.c1
        have hn := Lib.hid (Tq.cnt_take (s := x.sc) (xs := ([2, 4, 6] : List Int)) (k := k) (by simpa using hlt))
        generalize ([2, 4, 6] : List Int)[k]'(by simpa using hlt) = z at *
        generalize Tq.cnt x.sc (([2, 4, 6] : List Int).take k) = t at *
        by_cases hz : z < x.sc
        · have hn2 : Hid (1 + Tq.cnt x.sc (([2, 4, 6] : List Int).take (k + 1)) = 1 + t + 1) := Lib.hid (by rw [hn.out, if_pos hz]; omega)
          clear hn hxr
          go_wp2_with fail
          go_quiet (fail)
          go_wp2_with fail
          exact ⟨⟨k + 1, by omega, by rw [hn2.out], by go_num, Lib.hid (below_drewN hb.out _)⟩, by simp only [intOf]; omega⟩
        · have hn2 : Hid (1 + Tq.cnt x.sc (([2, 4, 6] : List Int).take (k + 1)) = 1 + t) := Lib.hid (by rw [hn.out, if_neg hz]; omega)
          clear hn hxr
          go_wp2_with fail
          go_quiet (fail)
          go_wp2_with fail
          exact ⟨⟨k + 1, by omega, by rw [hn2.out], by go_num, Lib.hid (below_drewN hb.out _)⟩, by simp only [intOf]; omega⟩
      · have hkz : ¬ (k : Int) < 3 := by omega
        have hk3 : k = 3 := by omega
        subst hk3
        have ht : ([2, 4, 6] : List Int).take 3 = [2, 4, 6] := rfl
        have c2 := hxr.c2
        simp only [ht] at hbd
        generalize hT : Tq.cnt x.sc ([2, 4, 6] : List Int) = t at *
        try rw [ht, hT]
        have hw1 : wrap64 (1 + t + x.qu) = 1 + t + x.qu := IntWalk.wrap64_in _ ⟨by simp at hbd; omega, by simp at hbd; omega⟩
        have hw2 : wrap64 (1 + t + x.qu - 2) = 1 + t + x.qu - 2 := IntWalk.wrap64_in _ ⟨by simp at hbd; omega, by simp at hbd; omega⟩
        clear hxr
        go_wp2_with (first | (go_at_call 69; refine (CMx.out _ _ _ _ rfl).mono ?_; rintro e w' ⟨rfl, rfl⟩) | (go_at_call 56; refine (CMn.out _ _ _ _ rfl).mono ?_; rintro e w' ⟨rfl, rfl⟩))
        go_ret
        exact ⟨ret_int (by rw [hr.out]), bt HB.out hb.out⟩
  · have hlim : Tq.lims x.ki = [13, 22, 30] := by unfold Tq.lims; rw [if_neg (by omega), if_pos hk]
    have hr := Lib.hid (cls_of hlim)
    have HB := Lib.hid (((Below.refl w.heap.size w).alloc (Nat.le_refl _) (.cells #[.int .i64 10, .int .i64 20, .int .i64 30] 2)).alloc (by simp) (.cells #[.int .i64 13, .int .i64 22, .int .i64 30] 2))
    have HC : Hid (∀ (k : Nat) (hk : k < 3), ((w.alloc (.cells #[.int .i64 10, .int .i64 20, .int .i64 30] 2)).alloc (.cells #[.int .i64 13, .int .i64 22, .int .i64 30] 2)).cell? ⟨w.heap.size + 1, k, none⟩ = some (.int .i64 (([13, 22, 30] : List Int)[k]'(by simpa using hk)))) := Lib.hid (fun k hk => by
      have h := fun j => cell_of_row _ (w.alloc (.cells #[.int .i64 10, .int .i64 20, .int .i64 30] 2)).heap.size j _ 2 (0, 0) (heap_alloc_new (w.alloc (.cells #[.int .i64 10, .int .i64 20, .int .i64 30] 2)) (.cells #[.int .i64 13, .int .i64 22, .int .i64 30] 2))
      simp only [World.size_alloc] at h
      rcases (show k = 0 ∨ k = 1 ∨ k = 2 by omega) with rfl | rfl | rfl
      · exact h 0
      · exact h 1
      · exact h 2)
    have HX := Lib.hid (h.below HB.out hbw)
    have HXl := Lib.hid (Nat.lt_of_lt_of_le hbw HB.out.size)
    clear hlim hk
    go_enter Tryd.func54, Tryd.ntmps54
    go_wp2
    go_loopw [4, 5] (fun c i wr => ∃ k : Nat, k ≤ 3 ∧ c = .int .i64 (1 + Tq.cnt x.sc (([13, 22, 30] : List Int).take k)) ∧ i = .int .i64 k ∧ Hid (Below ((w.alloc (.cells #[.int .i64 10, .int .i64 20, .int .i64 30] 2)).alloc (.cells #[.int .i64 13, .int .i64 22, .int .i64 30] 2)).heap.size ((w.alloc (.cells #[.int .i64 10, .int .i64 20, .int .i64 30] 2)).alloc (.cells #[.int .i64 13, .int .i64 22, .int .i64 30] 2)) wr)) (fun _ i _ => 3 - (intOf i).toNat)
    case atStart => exact ⟨0, by omega, by simp [Tq.cnt], rfl, Lib.hid (Below.refl _ _)⟩
    case round =>
      obtain ⟨k, hk, rfl, rfl, hb⟩ := hrel
      have hxr := (HX.out.below hb.out HXl.out)
      have hbd := Tq.cnt_bd x.sc (([13, 22, 30] : List Int).take k)
      have hlen : (([13, 22, 30] : List Int).take k).length ≤ 3 := by simp; omega
      by_cases hlt : k < 3
      · have hkz : (k : Int) < 3 := by omega
        have hc : wr.cell? ⟨w.heap.size + 1, k, none⟩ = _ := (hb.out.cell (p := ⟨w.heap.size + 1, k, none⟩) (by simp)).trans (HC.out k hlt)
        have c1 := hxr.c1
        have hn := Lib.hid (Tq.cnt_take (s := x.sc) (xs := ([13, 22, 30] : List Int)) (k := k) (by simpa using hlt))
        generalize ([13, 22, 30] : List Int)[k]'(by simpa using hlt) = z at *
        generalize Tq.cnt x.sc (([13, 22, 30] : List Int).take k) = t at *
        by_cases hz : z < x.sc
        · have hn2 : Hid (1 + Tq.cnt x.sc (([13, 22, 30] : List Int).take (k + 1)) = 1 + t + 1) := Lib.hid (by rw [hn.out, if_pos hz]; omega)
          clear hn hxr
          go_wp2_with fail
          go_quiet (fail)
          go_wp2_with fail
          exact ⟨⟨k + 1, by omega, by rw [hn2.out], by go_num, Lib.hid (below_drewN hb.out _)⟩, by simp only [intOf]; omega⟩
        · have hn2 : Hid (1 + Tq.cnt x.sc (([13, 22, 30] : List Int).take (k + 1)) = 1 + t) := Lib.hid (by rw [hn.out, if_neg hz]; omega)
          clear hn hxr
          go_wp2_with fail
          go_quiet (fail)
          go_wp2_with fail
          exact ⟨⟨k + 1, by omega, by rw [hn2.out], by go_num, Lib.hid (below_drewN hb.out _)⟩, by simp only [intOf]; omega⟩
      · have hkz : ¬ (k : Int) < 3 := by omega
        have hk3 : k = 3 := by omega
        subst hk3
        have ht : ([13, 22, 30] : List Int).take 3 = [13, 22, 30] := rfl
        have c2 := hxr.c2
        simp only [ht] at hbd
        generalize hT : Tq.cnt x.sc ([13, 22, 30] : List Int) = t at *
        try rw [ht, hT]
        have hw1 : wrap64 (1 + t + x.qu) = 1 + t + x.qu := IntWalk.wrap64_in _ ⟨by simp at hbd; omega, by simp at hbd; omega⟩
        have hw2 : wrap64 (1 + t + x.qu - 2) = 1 + t + x.qu - 2 := IntWalk.wrap64_in _ ⟨by simp at hbd; omega, by simp at hbd; omega⟩
        clear hxr
        go_wp2_with (first | (go_at_call 69; refine (CMx.out _ _ _ _ rfl).mono ?_; rintro e w' ⟨rfl, rfl⟩) | (go_at_call 56; refine (CMn.out _ _ _ _ rfl).mono ?_; rintro e w' ⟨rfl, rfl⟩))
        go_ret
        exact ⟨ret_int (by rw [hr.out]), bt HB.out hb.out⟩
  · have hlim : Tq.lims x.ki = [10, 20, 30] := by unfold Tq.lims; rw [if_neg (by omega), if_neg (by omega)]
    have hr := Lib.hid (cls_of hlim)
    have HB := Lib.hid ((Below.refl w.heap.size w).alloc (Nat.le_refl _) (.cells #[.int .i64 10, .int .i64 20, .int .i64 30] 2))
    have HC : Hid (∀ (k : Nat) (hk : k < 3), (w.alloc (.cells #[.int .i64 10, .int .i64 20, .int .i64 30] 2)).cell? ⟨w.heap.size, k, none⟩ = some (.int .i64 (([10, 20, 30] : List Int)[k]'(by simpa using hk)))) := Lib.hid (fun k hk => by
      have h := fun j => cell_of_row _ w.heap.size j _ 2 (0, 0) (heap_alloc_new w (.cells #[.int .i64 10, .int .i64 20, .int .i64 30] 2))
      rcases (show k = 0 ∨ k = 1 ∨ k = 2 by omega) with rfl | rfl | rfl
      · exact h 0
      · exact h 1
      · exact h 2)
    have HX := Lib.hid (h.below HB.out hbw)
    have HXl := Lib.hid (Nat.lt_of_lt_of_le hbw HB.out.size)
    clear hlim hk
    go_enter Tryd.func54, Tryd.ntmps54
    go_wp2
    go_loopw [4, 5] (fun c i wr => ∃ k : Nat, k ≤ 3 ∧ c = .int .i64 (1 + Tq.cnt x.sc (([10, 20, 30] : List Int).take k)) ∧ i = .int .i64 k ∧ Hid (Below (w.alloc (.cells #[.int .i64 10, .int .i64 20, .int .i64 30] 2)).heap.size (w.alloc (.cells #[.int .i64 10, .int .i64 20, .int .i64 30] 2)) wr)) (fun _ i _ => 3 - (intOf i).toNat)
    case atStart => exact ⟨0, by omega, by simp [Tq.cnt], rfl, Lib.hid (Below.refl _ _)⟩
    case round =>
      obtain ⟨k, hk, rfl, rfl, hb⟩ := hrel
      have hxr := (HX.out.below hb.out HXl.out)
      have hbd := Tq.cnt_bd x.sc (([10, 20, 30] : List Int).take k)
      have hlen : (([10, 20, 30] : List Int).take k).length ≤ 3 := by simp; omega
      by_cases hlt : k < 3
      · have hkz : (k : Int) < 3 := by omega
        have hc : wr.cell? ⟨w.heap.size, k, none⟩ = _ := (hb.out.cell (p := ⟨w.heap.size, k, none⟩) (by simp)).trans (HC.out k hlt)
        have c1 := hxr.c1
        have hn := Lib.hid (Tq.cnt_take (s := x.sc) (xs := ([10, 20, 30] : List Int)) (k := k) (by simpa using hlt))
        generalize ([10, 20, 30] : List Int)[k]'(by simpa using hlt) = z at *
        generalize Tq.cnt x.sc (([10, 20, 30] : List Int).take k) = t at *
        by_cases hz : z < x.sc
        · have hn2 : Hid (1 + Tq.cnt x.sc (([10, 20, 30] : List Int).take (k + 1)) = 1 + t + 1) := Lib.hid (by rw [hn.out, if_pos hz]; omega)
          clear hn hxr
          go_wp2_with fail
          go_quiet (fail)
          go_wp2_with fail
          exact ⟨⟨k + 1, by omega, by rw [hn2.out], by go_num, Lib.hid (below_drewN hb.out _)⟩, by simp only [intOf]; omega⟩
        · have hn2 : Hid (1 + Tq.cnt x.sc (([10, 20, 30] : List Int).take (k + 1)) = 1 + t) := Lib.hid (by rw [hn.out, if_neg hz]; omega)
          clear hn hxr
          go_wp2_with fail
          go_quiet (fail)
          go_wp2_with fail
          exact ⟨⟨k + 1, by omega, by rw [hn2.out], by go_num, Lib.hid (below_drewN hb.out _)⟩, by simp only [intOf]; omega⟩
      · have hkz : ¬ (k : Int) < 3 := by omega
        have hk3 : k = 3 := by omega
        subst hk3
        have ht : ([10, 20, 30] : List Int).take 3 = [10, 20, 30] := rfl
        have c2 := hxr.c2
        simp only [ht] at hbd
        generalize hT : Tq.cnt x.sc ([10, 20, 30] : List Int) = t at *
        try rw [ht, hT]
        have hw1 : wrap64 (1 + t + x.qu) = 1 + t + x.qu := IntWalk.wrap64_in _ ⟨by simp at hbd; omega, by simp at hbd; omega⟩
        have hw2 : wrap64 (1 + t + x.qu - 2) = 1 + t + x.qu - 2 := IntWalk.wrap64_in _ ⟨by simp at hbd; omega, by simp at hbd; omega⟩
        clear hxr
        go_wp2_with (first | (go_at_call 69; refine (CMx.out _ _ _ _ rfl).mono ?_; rintro e w' ⟨rfl, rfl⟩) | (go_at_call 56; refine (CMn.out _ _ _ _ rfl).mono ?_; rintro e w' ⟨rfl, rfl⟩))
        go_ret
        exact ⟨ret_int (by rw [hr.out]), bt HB.out hb.out⟩
  · have hlim : Tq.lims x.ki = [10, 20, 30] := by unfold Tq.lims; rw [if_neg (by omega), if_neg (by omega)]
    have hr := Lib.hid (cls_of hlim)
    have HB := Lib.hid ((Below.refl w.heap.size w).alloc (Nat.le_refl _) (.cells #[.int .i64 10, .int .i64 20, .int .i64 30] 2))
    have HC : Hid (∀ (k : Nat) (hk : k < 3), (w.alloc (.cells #[.int .i64 10, .int .i64 20, .int .i64 30] 2)).cell? ⟨w.heap.size, k, none⟩ = some (.int .i64 (([10, 20, 30] : List Int)[k]'(by simpa using hk)))) := Lib.hid (fun k hk => by
      have h := fun j => cell_of_row _ w.heap.size j _ 2 (0, 0) (heap_alloc_new w (.cells #[.int .i64 10, .int .i64 20, .int .i64 30] 2))
      rcases (show k = 0 ∨ k = 1 ∨ k = 2 by omega) with rfl | rfl | rfl
      · exact h 0
      · exact h 1
      · exact h 2)
    have HX := Lib.hid (h.below HB.out hbw)
    have HXl := Lib.hid (Nat.lt_of_lt_of_le hbw HB.out.size)
    clear hlim hk
    go_enter Tryd.func54, Tryd.ntmps54
    go_wp2
    go_loopw [4, 5] (fun c i wr => ∃ k : Nat, k ≤ 3 ∧ c = .int .i64 (1 + Tq.cnt x.sc (([10, 20, 30] : List Int).take k)) ∧ i = .int .i64 k ∧ Hid (Below (w.alloc (.cells #[.int .i64 10, .int .i64 20, .int .i64 30] 2)).heap.size (w.alloc (.cells #[.int .i64 10, .int .i64 20, .int .i64 30] 2)) wr)) (fun _ i _ => 3 - (intOf i).toNat)
    case atStart => exact ⟨0, by omega, by simp [Tq.cnt], rfl, Lib.hid (Below.refl _ _)⟩
    case round =>
      obtain ⟨k, hk, rfl, rfl, hb⟩ := hrel
      have hxr := (HX.out.below hb.out HXl.out)
      have hbd := Tq.cnt_bd x.sc (([10, 20, 30] : List Int).take k)
      have hlen : (([10, 20, 30] : List Int).take k).length ≤ 3 := by simp; omega
      by_cases hlt : k < 3
      · have hkz : (k : Int) < 3 := by omega
        have hc : wr.cell? ⟨w.heap.size, k, none⟩ = _ := (hb.out.cell (p := ⟨w.heap.size, k, none⟩) (by simp)).trans (HC.out k hlt)
        have c1 := hxr.c1
        have hn := Lib.hid (Tq.cnt_take (s := x.sc) (xs := ([10, 20, 30] : List Int)) (k := k) (by simpa using hlt))
        generalize ([10, 20, 30] : List Int)[k]'(by simpa using hlt) = z at *
        generalize Tq.cnt x.sc (([10, 20, 30] : List Int).take k) = t at *
        by_cases hz : z < x.sc
        · have hn2 : Hid (1 + Tq.cnt x.sc (([10, 20, 30] : List Int).take (k + 1)) = 1 + t + 1) := Lib.hid (by rw [hn.out, if_pos hz]; omega)
          clear hn hxr
          go_wp2_with fail
          go_quiet (fail)
          go_wp2_with fail
          exact ⟨⟨k + 1, by omega, by rw [hn2.out], by go_num, Lib.hid (below_drewN hb.out _)⟩, by simp only [intOf]; omega⟩
        · have hn2 : Hid (1 + Tq.cnt x.sc (([10, 20, 30] : List Int).take (k + 1)) = 1 + t) := Lib.hid (by rw [hn.out, if_neg hz]; omega)
          clear hn hxr
          go_wp2_with fail
          go_quiet (fail)
          go_wp2_with fail
          exact ⟨⟨k + 1, by omega, by rw [hn2.out], by go_num, Lib.hid (below_drewN hb.out _)⟩, by simp only [intOf]; omega⟩
      · have hkz : ¬ (k : Int) < 3 := by omega
        have hk3 : k = 3 := by omega
        subst hk3
        have ht : ([10, 20, 30] : List Int).take 3 = [10, 20, 30] := rfl
        have c2 := hxr.c2
        simp only [ht] at hbd
        generalize hT : Tq.cnt x.sc ([10, 20, 30] : List Int) = t at *
        try rw [ht, hT]
        have hw1 : wrap64 (1 + t + x.qu) = 1 + t + x.qu := IntWalk.wrap64_in _ ⟨by simp at hbd; omega, by simp at hbd; omega⟩
        have hw2 : wrap64 (1 + t + x.qu - 2) = 1 + t + x.qu - 2 := IntWalk.wrap64_in _ ⟨by simp at hbd; omega, by simp at hbd; omega⟩
        clear hxr
        go_wp2_with (first | (go_at_call 69; refine (CMx.out _ _ _ _ rfl).mono ?_; rintro e w' ⟨rfl, rfl⟩) | (go_at_call 56; refine (CMn.out _ _ _ _ rfl).mono ?_; rintro e w' ⟨rfl, rfl⟩))
        go_ret
        exact ⟨ret_int (by rw [hr.out]), bt HB.out hb.out⟩
theorem specClassOf_any (x : Tst) (w : World) :
    Calls Tryd.prog 20 #[.agg #[.int .i64 x.ki, .int .i64 x.sc, .int .i64 x.qu, .int .i64 x.de, .int .i64 x.ho]] w fun e w' => e = .returned (.tuple #[.int .i64 (rv (Tq.okT x) (Tq.cls x)), .int .i64 (rc (Tq.okT x) 1)]) ∧ Below w.heap.size w w' := by
  have hK := boxTst_cells w x 35
  have hB := Lib.hid (boxTst_below w x 35)
  have C := Lib.hid (l08One_any x w.heap.size 0 _ hK)
  have HK := Lib.hid hK
  cases hq : Tq.okT x with
  | false =>
    rw [hq] at C
    rw [rv_f, rc_f]
    clear hq hK
    go_enter Tryd.func20, Tryd.ntmps20
    go_wp2_with fail
    refine C.out.mono ?_
    rintro e w' ⟨rfl, rfl⟩
    go_wp2_with fail
    go_ret2
    exact ⟨rfl, hB.out⟩
  | true =>
    have HF := (Tq.okT_iff x).1 hq
    have D := Lib.hid (l08Class_any x w.heap.size 0 _ HK.out HF.q1 HF.q2)
    rw [hq] at C
    rw [rv_t, rc_t]
    clear hq hK HF
    go_enter Tryd.func20, Tryd.ntmps20
    go_wp2_with fail
    refine C.out.mono ?_
    rintro e w' ⟨rfl, rfl⟩
    go_wp2_with fail
    refine D.out.mono ?_
    rintro e w2 ⟨rfl, b2⟩
    have B2 := Lib.hid (bt hB.out b2)
    clear b2
    go_wp2_with fail
    go_ret2
    exact ⟨rfl, B2.out⟩
end Go.Proofs.YteileaeeiejonaaDoor

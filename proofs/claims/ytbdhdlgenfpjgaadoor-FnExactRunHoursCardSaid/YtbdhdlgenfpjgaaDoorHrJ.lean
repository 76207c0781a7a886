/-
  A profile with the forms of its temperatures: by the model. No condition of its own.
-/
import Derived.Test.YtbdhdlgenfpjgaaDoorHrH
namespace Go.Proofs.YtbdhdlgenfpjgaaDoor
open Go.RowKit Go.Shelf
set_option linter.unusedVariables false
set_option maxRecDepth 100000

theorem l00Max_to (a b c : Int) (w : World) (h : max a b = c) : Calls Tryd.prog 16 #[.int .i64 a, .int .i64 b] w fun e w' => e = .returned (.int .i64 c) ∧ w = w' := by
  subst h; exact l00Max_any a b w
set_option maxHeartbeats 25600000 in
theorem l05Form_any (B b cap : Nat) (w : World) (xs : List Lay) (k : Nat) (ho : LOwn B w (.slice (some ⟨b, 0, none⟩) xs.length cap) xs) (hq : La.okP xs = true) (hk : k < xs.length) :
    Calls Tryd.prog 50 #[.slice (some ⟨b, 0, none⟩) xs.length cap, .int .i64 k] w fun e w' => e = .returned (.int .i64 (La.frm xs[k] (La.stp xs k))) ∧ Below w.heap.size w w' := by
  obtain ⟨x, hx⟩ : ∃ x, x = xs[k] := ⟨_, rfl⟩
  obtain ⟨s, hs⟩ : ∃ s, s = La.stp xs k := ⟨_, rfl⟩
  rw [← hx, ← hs]
  have h16 := ((La.okP_iff xs).1 hq).1
  have HO := Lib.hid ho
  have HQ := Lib.hid hq
  have SB : 0 ≤ s ∧ s ≤ 4000001 := by rw [hs]; exact La.stp_bd hq hk
  have LB := La.low_bd hq hk
  have CG := Lib.hid (fun W (h : Below w.heap.size w W) (n : Nat) (hn1 : n < xs.length) (hn2 : n + 1 < xs.length) => l05Gradient_any B b cap W xs n (ho.belowAll h) hq hn1 hn2)
  have HC : Hid (∀ W, Below w.heap.size w W → LCells W b (k * 7) x) := Lib.hid (fun W (h : Below w.heap.size w W) => by rw [hx]; exact (ho.belowAll h).cells hk)
  have l16 : (xs.length : Int) ≤ 16 := by omega
  have k0 : (0 : Int) ≤ k := by omega
  have kl : (k : Int) < xs.length := by omega
  have FO : (x.fo = 6 ∧ (x.fo == 6) = true ∧ (x.fo == 1) = false ∧ (x.fo == 2) = false) ∨ (x.fo = 1 ∧ (x.fo == 6) = false ∧ (x.fo == 1) = true ∧ (x.fo == 2) = false) ∨ (x.fo = 2 ∧ (x.fo == 6) = false ∧ (x.fo == 1) = false ∧ (x.fo == 2) = true) ∨ ((¬ x.fo = 6 ∧ ¬ x.fo = 1 ∧ ¬ x.fo = 2) ∧ (x.fo == 6) = false ∧ (x.fo == 1) = false ∧ (x.fo == 2) = false) := by
    by_cases a : x.fo = 6
    · rw [a]; exact Or.inl ⟨rfl, rfl, rfl, rfl⟩
    · by_cases b : x.fo = 1
      · rw [b]; exact Or.inr (Or.inl ⟨rfl, rfl, rfl, rfl⟩)
      · by_cases c : x.fo = 2
        · rw [c]; exact Or.inr (Or.inr (Or.inl ⟨rfl, rfl, rfl, rfl⟩))
        · exact Or.inr (Or.inr (Or.inr ⟨⟨a, b, c⟩, beq_eq_false_iff_ne.2 a, beq_eq_false_iff_ne.2 b, beq_eq_false_iff_ne.2 c⟩))
  clear ho hq hx
  have FF := Lib.hid FO
  clear FO
  rcases k with _ | j
  · skip
    have LZ : La.low xs 0 = 0 := rfl
    by_cases hu : 0 + 1 < xs.length
    · have UZ := La.upp_eq hu
      have hup : ((0 : Nat) : Int) + 1 < xs.length := by omega
      have GU := La.grd_bd (La.fits_at HQ.out hk) (La.fits_at HQ.out hu)
      have nwu : IntKind.i64.wrap (((0 : Nat) : Int) + 1) = ((0 : Nat) : Int) + 1 := IntWalk.i64_in _ (by omega)
      have M3 : Hid (max (La.grd xs[0] xs[0 + 1]) (-La.grd xs[0] xs[0 + 1]) = La.upp xs 0) := Lib.hid (by rw [UZ]; unfold Ar.ab; split <;> omega)
      have M4 : Hid (max (0) (La.upp xs 0) = s) := Lib.hid (by rw [hs]; unfold La.stp; rw [LZ])
      clear UZ LZ LB hs
      go_enter Tryd.func50, Tryd.ntmps50
      go_wp2_with fail
      refine (CG.out _ (Below.refl _ _) 0 hk hu).mono ?_
      rintro e w3 ⟨rfl, m3, rfl⟩
      have B3 := Lib.hid (bt (Below.refl _ _) (below_drewW w m3))
      generalize World.drewN _ m3 = w3 at *
      have nwg : IntKind.i64.wrap (-La.grd xs[0] xs[0 + 1]) = -La.grd xs[0] xs[0 + 1] := IntWalk.i64_in _ (by omega)
      go_wp2_with fail
      refine (l00Max_to _ _ _ _ M3.out).mono ?_
      rintro e w4 ⟨rfl, rfl⟩
      clear nwg GU
      go_wp2_with fail
      refine (l00Max_to _ _ _ _ M4.out).mono ?_
      rintro e w4 ⟨rfl, rfl⟩
      obtain ⟨c0, c1, c2, c3, c4, c5, c6⟩ := HC.out _ B3.out
      clear HC HO HQ CG
      rcases FF.out with ⟨q0, q1, q2, q3⟩ | ⟨q0, q1, q2, q3⟩ | ⟨q0, q1, q2, q3⟩ | ⟨⟨q0, q0', q0''⟩, q1, q2, q3⟩
      all_goals (
        have Q0 := Lib.hid q0
        try have Q1 := Lib.hid q0'
        try have Q2 := Lib.hid q0''
        clear q0
        try clear q0' q0''
        go_wp2_with fail
        all_goals (
          go_ret
          refine ⟨ret_int ?_, B3.out⟩
          have q0 := Q0.out
          try have q1 := Q1.out
          try have q2 := Q2.out
          unfold La.frm
          repeat' split
          all_goals first | rfl | omega))
    · have UZ := La.upp_0 hu
      have hup : ¬ ((0 : Nat) : Int) + 1 < xs.length := by omega
      have nwu : IntKind.i64.wrap (((0 : Nat) : Int) + 1) = ((0 : Nat) : Int) + 1 := IntWalk.i64_in _ (by omega)
      have hst : s = 0 := (by rw [hs]; unfold La.stp; rw [UZ]; rw [LZ]; rfl)
      clear UZ LZ LB hs
      subst hst
      go_enter Tryd.func50, Tryd.ntmps50
      obtain ⟨c0, c1, c2, c3, c4, c5, c6⟩ := HC.out _ (Below.refl _ _)
      clear HC HO HQ CG SB
      rcases FF.out with ⟨q0, q1, q2, q3⟩ | ⟨q0, q1, q2, q3⟩ | ⟨q0, q1, q2, q3⟩ | ⟨⟨q0, q0', q0''⟩, q1, q2, q3⟩
      all_goals (
        have Q0 := Lib.hid q0
        try have Q1 := Lib.hid q0'
        try have Q2 := Lib.hid q0''
        clear q0
        try clear q0' q0''
        go_wp2_with fail
        all_goals (
          go_ret
          refine ⟨ret_int ?_, (Below.refl _ _)⟩
          have q0 := Q0.out
          try have q1 := Q1.out
          try have q2 := Q2.out
          unfold La.frm
          repeat' split
          all_goals first | rfl | omega))
  · skip
    have hj1 : j < xs.length := by omega
    have LZ := La.low_eq hk
    have nwj : IntKind.i64.wrap (((j + 1 : Nat) : Int) - 1) = (j : Int) := by rw [IntWalk.i64_in _ (by omega)]; omega
    have kp : (0 : Int) < ((j + 1 : Nat) : Int) := by omega
    have GB := La.grd_bd (La.fits_at HQ.out hj1) (La.fits_at HQ.out hk)
    have M1 : Hid (max (La.grd xs[j] xs[j + 1]) (-La.grd xs[j] xs[j + 1]) = La.low xs (j + 1)) := Lib.hid (by rw [LZ]; unfold Ar.ab; split <;> omega)
    have M2 : Hid (max 0 (La.low xs (j + 1)) = La.low xs (j + 1)) := Lib.hid (by omega)
    by_cases hu : (j + 1) + 1 < xs.length
    · have UZ := La.upp_eq hu
      have hup : (((j + 1) : Nat) : Int) + 1 < xs.length := by omega
      have GU := La.grd_bd (La.fits_at HQ.out hk) (La.fits_at HQ.out hu)
      have nwu : IntKind.i64.wrap ((((j + 1) : Nat) : Int) + 1) = (((j + 1) : Nat) : Int) + 1 := IntWalk.i64_in _ (by omega)
      have M3 : Hid (max (La.grd xs[(j + 1)] xs[(j + 1) + 1]) (-La.grd xs[(j + 1)] xs[(j + 1) + 1]) = La.upp xs (j + 1)) := Lib.hid (by rw [UZ]; unfold Ar.ab; split <;> omega)
      have M4 : Hid (max (La.low xs (j + 1)) (La.upp xs (j + 1)) = s) := Lib.hid (by rw [hs]; rfl)
      clear UZ LZ LB hs
      go_enter Tryd.func50, Tryd.ntmps50
      go_wp2_with fail
      refine (CG.out w (Below.refl _ _) j hj1 hk).mono ?_
      rintro e w1 ⟨rfl, m1, rfl⟩
      have B1 := Lib.hid (below_drewW w m1)
      generalize w.drewN m1 = w1 at *
      have nwg : IntKind.i64.wrap (-La.grd xs[j] xs[j + 1]) = -La.grd xs[j] xs[j + 1] := IntWalk.i64_in _ (by omega)
      go_wp2_with fail
      refine (l00Max_to _ _ _ _ M1.out).mono ?_
      rintro e w2 ⟨rfl, rfl⟩
      clear nwg GB
      go_wp2_with fail
      refine (l00Max_to _ _ _ _ M2.out).mono ?_
      rintro e w2 ⟨rfl, rfl⟩
      go_wp2_with fail
      refine (CG.out _ B1.out (j + 1) hk hu).mono ?_
      rintro e w3 ⟨rfl, m3, rfl⟩
      have B3 := Lib.hid (bt B1.out (below_drewW w1 m3))
      generalize World.drewN _ m3 = w3 at *
      have nwg : IntKind.i64.wrap (-La.grd xs[(j + 1)] xs[(j + 1) + 1]) = -La.grd xs[(j + 1)] xs[(j + 1) + 1] := IntWalk.i64_in _ (by omega)
      go_wp2_with fail
      refine (l00Max_to _ _ _ _ M3.out).mono ?_
      rintro e w4 ⟨rfl, rfl⟩
      clear nwg GU
      go_wp2_with fail
      refine (l00Max_to _ _ _ _ M4.out).mono ?_
      rintro e w4 ⟨rfl, rfl⟩
      obtain ⟨c0, c1, c2, c3, c4, c5, c6⟩ := HC.out _ B3.out
      clear HC HO HQ CG
      rcases FF.out with ⟨q0, q1, q2, q3⟩ | ⟨q0, q1, q2, q3⟩ | ⟨q0, q1, q2, q3⟩ | ⟨⟨q0, q0', q0''⟩, q1, q2, q3⟩
      all_goals (
        have Q0 := Lib.hid q0
        try have Q1 := Lib.hid q0'
        try have Q2 := Lib.hid q0''
        clear q0
        try clear q0' q0''
        go_wp2_with fail
        all_goals (
          go_ret
          refine ⟨ret_int ?_, B3.out⟩
          have q0 := Q0.out
          try have q1 := Q1.out
          try have q2 := Q2.out
          unfold La.frm
          repeat' split
          all_goals first | rfl | omega))
    · have UZ := La.upp_0 hu
      have hup : ¬ (((j + 1) : Nat) : Int) + 1 < xs.length := by omega
      have nwu : IntKind.i64.wrap ((((j + 1) : Nat) : Int) + 1) = (((j + 1) : Nat) : Int) + 1 := IntWalk.i64_in _ (by omega)
      have hst : s = La.low xs (j + 1) := (by rw [hs]; unfold La.stp; rw [UZ]; omega)
      clear UZ LZ LB hs
      rw [← hst] at M1 M2
      clear hst
      go_enter Tryd.func50, Tryd.ntmps50
      go_wp2_with fail
      refine (CG.out w (Below.refl _ _) j hj1 hk).mono ?_
      rintro e w1 ⟨rfl, m1, rfl⟩
      have B1 := Lib.hid (below_drewW w m1)
      generalize w.drewN m1 = w1 at *
      have nwg : IntKind.i64.wrap (-La.grd xs[j] xs[j + 1]) = -La.grd xs[j] xs[j + 1] := IntWalk.i64_in _ (by omega)
      go_wp2_with fail
      refine (l00Max_to _ _ _ _ M1.out).mono ?_
      rintro e w2 ⟨rfl, rfl⟩
      clear nwg GB
      go_wp2_with fail
      refine (l00Max_to _ _ _ _ M2.out).mono ?_
      rintro e w2 ⟨rfl, rfl⟩
      obtain ⟨c0, c1, c2, c3, c4, c5, c6⟩ := HC.out _ B1.out
      clear HC HO HQ CG
      rcases FF.out with ⟨q0, q1, q2, q3⟩ | ⟨q0, q1, q2, q3⟩ | ⟨q0, q1, q2, q3⟩ | ⟨⟨q0, q0', q0''⟩, q1, q2, q3⟩
      all_goals (
        have Q0 := Lib.hid q0
        try have Q1 := Lib.hid q0'
        try have Q2 := Lib.hid q0''
        clear q0
        try clear q0' q0''
        go_wp2_with fail
        all_goals (
          go_ret
          refine ⟨ret_int ?_, B1.out⟩
          have q0 := Q0.out
          try have q1 := Q1.out
          try have q2 := Q2.out
          unfold La.frm
          repeat' split
          all_goals first | rfl | omega))
end Go.Proofs.YtbdhdlgenfpjgaaDoor

/-
  The walk of the law FnRunouts and what it stands on: For every two slices of bytes (nil, shared and with spare room too) the law Runouts returns true and writes nothing that was there. No other condition (beyond 2^20 bytes the law itself returns true).
-/
import Derived.Test.YtmieckchppfogaaRows
import Derived.Test.YtmieckchppfogaaAgRu
import Derived.WalkKit
import Derived.WalkSpells
import Derived.WalkLawsBesides
import Derived.Outline
import Derived.IntWalk
import Derived.Lib.Hide
import Derived.ProofKit
import Derived.OpenShut
import Derived.ShutString
import Derived.ChangeOld
import Derived.ChangeVars
import Derived.Below
import Derived.WalkSmall
namespace Go.Proofs.Ytmieckchppfogaa.fnRunouts
open Go.ChangeShapes Go.WideShapes Go.ChangeAt Go.RowKit
open Go.ChangeMaps (open_string shut_string)
set_option linter.unusedVariables false
def IsRow (k : IntKind) (w : World) (a : Option Addr) (len cap : Nat) (zs : List Int) : Prop :=
  (a = none ∧ len = 0 ∧ cap = 0 ∧ zs = []) ∨
  ∃ x, a = some x ∧ len ≤ cap ∧ cap ≤ maxLen ∧ zs.length = cap ∧ (∀ i, i < zs.length → w.cell? (x.add i) = some (.int k (zs.getD i 0))) ∧ ∀ n ∈ zs, (Lit.int k n).wf = true
set_option maxRecDepth 100000
set_option maxHeartbeats 24000000
theorem walk (a0 : Option Addr) (len0 cap0 : Nat) (z0 : List Int) (a1 : Option Addr) (len1 cap1 : Nat) (z1 : List Int) (w : World) (w0 : IsRow .u8 w a0 len0 cap0 z0) (w1 : IsRow .u8 w a1 len1 cap1 z1) :
    Calls Try.prog 14 #[.slice a0 len0 cap0, .slice a1 len1 cap1] w fun e w' => e = .returned (.bool true) ∧ Below w.heap.size w w' := by
  by_cases hb0 : len0 ≤ 1048576
  · by_cases hb1 : len1 ≤ 1048576
    · have V0 := Lib.hid (bsOfRow w0)
      have V1 := Lib.hid (bsOfRow w1)
      clear w0 w1
      go_enter Try.func14, Try.ntmps14
      go_wp2_with fail
      refine (b10no w _ len0 _ hb0).mono ?_
      rintro e w' ⟨rfl, rfl⟩
      go_wp2_with fail
      refine (b10no w _ len1 _ hb1).mono ?_
      rintro e w' ⟨rfl, rfl⟩
      go_wp2_with fail
      refine (drawTangentFor_any w _ len0 V0.out hb0).mono ?_
      rintro e v1 ⟨u, d, rfl, ⟨xs, hx, U0⟩, b1⟩
      have U1 := Lib.hid U0
      have B1 := Lib.hid b1
      clear b1 U0 V0
      have P1 := Lib.hid (fun W (h : PpAt W u xs) => ruT W u xs d h hx)
      rcases An.ru1 xs d with h1 | ⟨h1, t, s, t1, t2, e1, e2, e3, e4, e5, e6⟩
      focus
        have f1 : (An.tC0 xs d == 0) = false := by simpa using h1
        generalize An.tC0 xs d = c at *
        generalize An.tV0 xs d = z at *
        go_wp2_with fail
        refine (P1.out _ U1.out).mono ?_
        rintro e vA ⟨rfl, bb⟩
        have BA := Lib.hid (bt B1.out bb)
        clear bb B1 U1 P1 hx
        go_wp2_with fail
        clear f1 h1
      rotate_left 1
      focus
        have P2 := Lib.hid (fun W (h : PpAt W u xs) => ruS W u xs t h hx)
        have P3 := Lib.hid (fun W (h : PpAt W u xs) => ruS W u xs (t - 1) h hx)
        have P4 := Lib.hid (fun W (h : PpAt W u xs) => ruS W u xs (t + 1) h hx)
        rw [h1, e1] at P1
        rw [e2, e3] at P2
        clear e1 e2 e3 h1 hx
        generalize An.sC0 xs (t - 1) = c3 at *
        generalize An.sV0 xs (t - 1) = b3 at *
        generalize An.sC0 xs (t + 1) = c4 at *
        generalize An.sV0 xs (t + 1) = l4 at *
        have f2 : ¬ d < s := by omega
        go_wp2_with fail
        refine (P1.out _ U1.out).mono ?_
        rintro e v2 ⟨rfl, bb⟩
        have B2 := Lib.hid (bt B1.out bb)
        have U2 := Lib.hid (U1.out.below bb)
        clear bb B1 U1 P1
        go_wp2_with fail
        refine (P2.out _ U2.out).mono ?_
        rintro e v3 ⟨rfl, bb⟩
        have B3 := Lib.hid (bt B2.out bb)
        have U3 := Lib.hid (U2.out.below bb)
        clear bb B2 U2 P2
        go_wp2_with fail
        refine (P3.out _ U3.out).mono ?_
        rintro e v4 ⟨rfl, bb⟩
        have B4 := Lib.hid (bt B3.out bb)
        have U4 := Lib.hid (U3.out.below bb)
        clear bb B3 U3 P3
        go_wp2_with fail
        refine (P4.out _ U4.out).mono ?_
        rintro e vA ⟨rfl, bb⟩
        have BA := Lib.hid (bt B4.out bb)
        clear bb B4 U4 P4
        by_cases h3 : c3 = 0
        focus
          have f3 : ¬ b3 ≤ d := by have := e5 h3; omega
          subst h3
          clear e5
          by_cases h4 : t < 3000
          focus
            obtain ⟨e7, e8⟩ := e6 h4
            subst e7
            have f4 : ¬ s < l4 := by omega
            clear e6 e8
            go_wp2_with fail
            clear f2 f3 f4 h4 e4 t1 t2
          rotate_left 1
          focus
            clear e6
            go_wp2_with fail
            clear f2 f3 h4 e4 t1 t2
        rotate_left 2
        focus
          have f3 : (c3 == 0) = false := by simpa using h3
          clear e5
          by_cases h4 : t < 3000
          focus
            obtain ⟨e7, e8⟩ := e6 h4
            subst e7
            have f4 : ¬ s < l4 := by omega
            clear e6 e8
            go_wp2_with fail
            clear f2 f3 f4 h4 e4 t1 t2 h3
          rotate_left 1
          focus
            clear e6
            go_wp2_with fail
            clear f2 f3 h4 e4 t1 t2 h3
      all_goals (
        refine (drawRunoutOf_any vA _ len1 (Bs.mono (V1.out.below BA.out) BA.out.size) hb1).mono ?_
        rintro e w1 ⟨u', a, b, rfl, ⟨ys, hy, N, q, cp, rfl, Y0⟩, bb⟩
        have Y1 : Hid (PpAt w1 (.slice (some ⟨q, 0, none⟩) ys.length cp) ys) := Lib.hid ⟨N, q, cp, rfl, Y0⟩
        have B1 := Lib.hid (bt BA.out bb)
        clear bb BA Y0 V1
        have R1 := Lib.hid (fun W (h : PpAt W (.slice (some ⟨q, 0, none⟩) ys.length cp) ys) => ruR W _ ys a b h hy)
        have R2 := Lib.hid (fun W (h : PpAt W (.slice (some ⟨q, 0, none⟩) ys.length cp) ys) => ruA W _ ys a b h hy)
        have R3 := Lib.hid (fun W (h : PpAt W (.slice (some ⟨q, 0, none⟩) ys.length cp) ys) => ruB W _ ys h hy)
        rcases An.ru2 ys a b with ⟨h1, h2, h3, h4⟩ | ⟨h1, k, be, k1, k2, k3, k4, k5, k6, m1, m2, b1, b2, m3, m4, m5, r1, r2⟩
        · have f1 : (An.lC0 ys a b != 0) = true := by simpa using h1
          rw [h3, h4] at R1
          rw [h2] at R2
          clear h1 h2 h3 h4
          generalize An.lC0 ys a b = c at *
          generalize An.bC0 ys = c2 at *
          generalize An.bV0 ys = k2 at *
          go_wp2_with fail
          refine (R1.out _ Y1.out).mono ?_
          rintro e w2 ⟨rfl, bb⟩
          have B2 := Lib.hid (bt B1.out bb)
          have Y2 := Lib.hid (Y1.out.below bb)
          clear bb B1 Y1 R1
          go_wp2_with fail
          refine (R2.out _ Y2.out).mono ?_
          rintro e w3 ⟨rfl, bb⟩
          have B3 := Lib.hid (bt B2.out bb)
          have Y3 := Lib.hid (Y2.out.below bb)
          clear bb B2 Y2 R2
          go_wp2_with fail
          refine (R3.out _ Y3.out).mono ?_
          rintro e w4 ⟨rfl, bb⟩
          have B4 := Lib.hid (bt B3.out bb)
          clear bb B3 Y3 R3
          go_wp2_with fail
          go_ret
          exact ⟨rfl, B4.out⟩
        · have R4 := Lib.hid (fun W (h : PpAt W (.slice (some ⟨q, 0, none⟩) ys.length cp) ys) => ruK W _ ys k h hy)
          have R5 := Lib.hid (fun W (h : PpAt W (.slice (some ⟨q, 0, none⟩) ys.length cp) ys) => ruS W _ ys (An.lV0 ys a b) h hy)
          have R6 := Lib.hid (fun W => b10Div_pos (a * be) W m1 m2)
          rw [r1, r2] at R5
          rw [k5, k6] at R4
          rw [k1, k2] at R3
          rw [h1] at R2
          rw [← m3] at R2 R5
          clear h1 k1 k2 k5 k6 r1 r2 m3
          generalize Ar.dr (a * be) 1000 = D at *
          generalize An.rC0 ys a b = c5 at *
          generalize An.rV0 ys a b = s5 at *
          have f1 : ¬ k < 1 := by omega
          have f2 : ¬ (ys.length : Int) - 1 ≤ k := by omega
          go_wp2_with fail
          refine (R1.out _ Y1.out).mono ?_
          rintro e w2 ⟨rfl, bb⟩
          have B2 := Lib.hid (bt B1.out bb)
          have Y2 := Lib.hid (Y1.out.below bb)
          clear bb B1 Y1 R1
          go_wp2_with fail
          refine (R2.out _ Y2.out).mono ?_
          rintro e w3 ⟨rfl, bb⟩
          have B3 := Lib.hid (bt B2.out bb)
          have Y3 := Lib.hid (Y2.out.below bb)
          clear bb B2 Y2 R2
          go_wp2_with fail
          refine (R3.out _ Y3.out).mono ?_
          rintro e w4 ⟨rfl, bb⟩
          have B4 := Lib.hid (bt B3.out bb)
          have Y4 := Lib.hid (Y3.out.below bb)
          clear bb B3 Y3 R3
          go_wp2_with fail
          refine (R4.out _ Y4.out).mono ?_
          rintro e w5 ⟨rfl, bb⟩
          have B5 := Lib.hid (bt B4.out bb)
          have Y5 := Lib.hid (Y4.out.below bb)
          clear bb B4 Y4 R4
          go_wp2_with fail
          refine (R5.out _ Y5.out).mono ?_
          rintro e w6 ⟨rfl, bb⟩
          have B6 := Lib.hid (bt B5.out bb)
          clear bb B5 Y5 R5
          go_wp2_with fail
          refine (R6.out _).mono ?_
          rintro e w7 ⟨rfl, rfl⟩
          clear R6
          go_wp2_with fail
          go_ret
          exact ⟨rfl, B6.out⟩)
    · clear w0 w1
      go_enter Try.func14, Try.ntmps14
      go_wp2_with fail
      refine (b10no w _ len0 _ hb0).mono ?_
      rintro e w' ⟨rfl, rfl⟩
      go_wp2_with fail
      refine (b10yes w _ len1 _ (by omega)).mono ?_
      rintro e w' ⟨rfl, rfl⟩
      go_wp2_with fail
      go_ret
      exact ⟨rfl, Below.refl _ _⟩
  · clear w0 w1
    go_enter Try.func14, Try.ntmps14
    go_wp2_with fail
    refine (b10yes w _ len0 _ (by omega)).mono ?_
    rintro e w' ⟨rfl, rfl⟩
    go_wp2_with fail
    go_ret
    exact ⟨rfl, Below.refl _ _⟩
end Go.Proofs.Ytmieckchppfogaa.fnRunouts

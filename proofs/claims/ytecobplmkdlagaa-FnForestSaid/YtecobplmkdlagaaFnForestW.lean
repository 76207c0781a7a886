/-
  The walk of the law FnForest and what it stands on: For every two slices of bytes (nil, shared and with spare room too) the law Forest returns true and writes nothing that was there. No other condition (beyond 2^20 bytes the law itself returns true).
-/
import Derived.Test.YtecobplmkdlagaaRows
import Derived.Test.YtecobplmkdlagaaFoL
import Derived.WalkKit
import Derived.WalkSpells
import Derived.WalkLawsBesides
import Derived.Outline
import Derived.IntWalk
import Derived.Lib.Hide
import Derived.ProofKit
import Derived.OpenShut
import Derived.ShutString
import Derived.ChangeOld
import Derived.ChangeVars
import Derived.Below
import Derived.WalkSmall
namespace Go.Proofs.Ytecobplmkdlagaa.fnForest
open Go.ChangeShapes Go.WideShapes Go.ChangeAt Go.RowKit
open Go.ChangeMaps (open_string shut_string)
set_option linter.unusedVariables false
def IsRow (k : IntKind) (w : World) (a : Option Addr) (len cap : Nat) (zs : List Int) : Prop :=
  (a = none ∧ len = 0 ∧ cap = 0 ∧ zs = []) ∨
  ∃ x, a = some x ∧ len ≤ cap ∧ cap ≤ maxLen ∧ zs.length = cap ∧ (∀ i, i < zs.length → w.cell? (x.add i) = some (.int k (zs.getD i 0))) ∧ ∀ n ∈ zs, (Lit.int k n).wf = true
set_option maxRecDepth 100000
set_option maxHeartbeats 24000000
theorem walk (a0 : Option Addr) (len0 cap0 : Nat) (z0 : List Int) (a1 : Option Addr) (len1 cap1 : Nat) (z1 : List Int) (w : World) (w0 : IsRow .u8 w a0 len0 cap0 z0) (w1 : IsRow .u8 w a1 len1 cap1 z1) :
    Calls Try.prog 12 #[.slice a0 len0 cap0, .slice a1 len1 cap1] w fun e w' => e = .returned (.bool true) ∧ Below w.heap.size w w' := by
  by_cases hb0 : len0 ≤ 1048576
  · by_cases hb1 : len1 ≤ 1048576
    · have V0 := Lib.hid (bsOfRow w0)
      have V1 := Lib.hid (bsOfRow w1)
      clear w0 w1
      go_enter Try.func12, Try.ntmps12
      go_wp2_with fail
      refine (b10Long_no w _ len0 _ hb0).mono ?_
      rintro e w' ⟨rfl, rfl⟩
      go_wp2_with fail
      refine (b10Long_no w _ len1 _ hb1).mono ?_
      rintro e w' ⟨rfl, rfl⟩
      go_wp2_with fail
      refine (drawProtectionOf_any w _ len0 V0.out hb0).mono ?_
      rintro e v1 ⟨x, s, rfl, hx, b1⟩
      have X1 := Lib.hid (StdAt.new v1 x)
      have B1 := Lib.hid (b1.alloc b1.size (.cells #[.string ⟨x.id.toArray⟩, .int .i64 x.tr, .int .i64 x.he, .int .i64 x.co, .int .i64 x.ga] 34))
      clear b1
      by_cases h1 : Fo.poC x s = 0
      focus
        obtain ⟨⟨s0, s1⟩, p0, p1, hq, hg, h4, hr⟩ := Fo.fa h1
        have P1 := Lib.hid (fun W => implProtectionOf_any x s W hx)
        have P2 := Lib.hid (fun W => implProtectionOf_any x (s + 1) W hx)
        have P3 := Lib.hid (fun W => implGrowStand_any x 1 W hx)
        have P4 := Lib.hid (fun W => implProtectionOf_any (Fo.grS x 1) s W (Fo.grS_id hx))
        rw [h1] at P1
        rw [hg] at P3
        rw [h4] at P4
        generalize Fo.poV (Fo.grS x 1) s = r at *
        clear h4 hg h1 hx
        generalize Fo.grS x 1 = o at *
        generalize Fo.poV x s = p at *
        generalize Fo.poV x (s + 1) = q at *
        generalize Fo.poC x (s + 1) = c2 at *
        have f1 : ¬ p < 0 := by omega
        have f2 : ¬ 1000 < p := by omega
        have f3 : ¬ r < p := by omega
        have ew : IntKind.i64.wrap (s + 1) = s + 1 := IntWalk.i64_in _ (by omega)
        clear p0 p1 hr
        by_cases h2 : c2 = 0
        focus
          have f4 : ¬ p < q := by have := hq h2; omega
          subst h2
          clear hq
          obtain ⟨a0, a1, a2, a3, a4⟩ := X1.out.five
          go_wp2_with fail
          refine (P1.out _).mono ?_
          rintro e v2 ⟨rfl, bb⟩
          have B2 := Lib.hid (bt B1.out bb)
          have X2 := Lib.hid (X1.out.all bb)
          clear bb B1 X1
          clear a0 a1 a2 a3 a4
          obtain ⟨a0, a1, a2, a3, a4⟩ := X2.out.five
          go_wp2_with fail
          refine (P2.out _).mono ?_
          rintro e v3 ⟨rfl, bb⟩
          have B3 := Lib.hid (bt B2.out bb)
          have X3 := Lib.hid (X2.out.all bb)
          clear bb B2 X2
          clear a0 a1 a2 a3 a4
          obtain ⟨a0, a1, a2, a3, a4⟩ := X3.out.five
          go_wp2_with fail
          refine (P3.out _).mono ?_
          rintro e v4 ⟨rfl, bb⟩
          have B4 := Lib.hid (bt B3.out bb)
          clear bb B3 X3
          clear a0 a1 a2 a3 a4
          have X5 := Lib.hid (StdAt.new v4 o)
          have B5 := Lib.hid (B4.out.alloc B4.out.size (.cells #[.string ⟨o.id.toArray⟩, .int .i64 o.tr, .int .i64 o.he, .int .i64 o.co, .int .i64 o.ga] 34))
          clear B4
          obtain ⟨a0, a1, a2, a3, a4⟩ := X5.out.five
          go_wp2_with fail
          refine (P4.out _).mono ?_
          rintro e vA ⟨rfl, bb⟩
          have BA := Lib.hid (bt B5.out bb)
          clear bb B5 X5
          clear a0 a1 a2 a3 a4
          go_wp2_with fail
          clear f1 f2 f3 f4 ew P1 P2 P3 P4
        rotate_left 1
        focus
          have f4 : (c2 == 0) = false := by simpa using h2
          clear hq
          obtain ⟨a0, a1, a2, a3, a4⟩ := X1.out.five
          go_wp2_with fail
          refine (P1.out _).mono ?_
          rintro e v2 ⟨rfl, bb⟩
          have B2 := Lib.hid (bt B1.out bb)
          have X2 := Lib.hid (X1.out.all bb)
          clear bb B1 X1
          clear a0 a1 a2 a3 a4
          obtain ⟨a0, a1, a2, a3, a4⟩ := X2.out.five
          go_wp2_with fail
          refine (P2.out _).mono ?_
          rintro e v3 ⟨rfl, bb⟩
          have B3 := Lib.hid (bt B2.out bb)
          have X3 := Lib.hid (X2.out.all bb)
          clear bb B2 X2
          clear a0 a1 a2 a3 a4
          obtain ⟨a0, a1, a2, a3, a4⟩ := X3.out.five
          go_wp2_with fail
          refine (P3.out _).mono ?_
          rintro e v4 ⟨rfl, bb⟩
          have B4 := Lib.hid (bt B3.out bb)
          clear bb B3 X3
          clear a0 a1 a2 a3 a4
          have X5 := Lib.hid (StdAt.new v4 o)
          have B5 := Lib.hid (B4.out.alloc B4.out.size (.cells #[.string ⟨o.id.toArray⟩, .int .i64 o.tr, .int .i64 o.he, .int .i64 o.co, .int .i64 o.ga] 34))
          clear B4
          obtain ⟨a0, a1, a2, a3, a4⟩ := X5.out.five
          go_wp2_with fail
          refine (P4.out _).mono ?_
          rintro e vA ⟨rfl, bb⟩
          have BA := Lib.hid (bt B5.out bb)
          clear bb B5 X5
          clear a0 a1 a2 a3 a4
          go_wp2_with fail
          clear f1 f2 f3 f4 ew P1 P2 P3 P4
      rotate_left 2
      focus
        have P1 := Lib.hid (fun W => implProtectionOf_any x s W hx)
        have P2 := Lib.hid (fun W n => implProtectionOf_any x n W hx)
        have f1 : (Fo.poC x s == 0) = false := by simpa using h1
        generalize Fo.poC x s = c1 at *
        generalize Fo.poV x s = p at *
        clear h1 hx
        obtain ⟨a0, a1, a2, a3, a4⟩ := X1.out.five
        go_wp2_with fail
        refine (P1.out _).mono ?_
        rintro e v2 ⟨rfl, bb⟩
        have B2 := Lib.hid (bt B1.out bb)
        have X2 := Lib.hid (X1.out.all bb)
        clear bb B1 X1
        clear a0 a1 a2 a3 a4
        obtain ⟨a0, a1, a2, a3, a4⟩ := X2.out.five
        go_wp2_with fail
        refine (P2.out _ _).mono ?_
        rintro e vA ⟨rfl, bb⟩
        have BA := Lib.hid (bt B2.out bb)
        clear bb B2 X2
        clear a0 a1 a2 a3 a4
        go_wp2_with fail
        clear f1 P1 P2
      all_goals (
        have V1A := Lib.hid (bsMono (V1.out.below BA.out) BA.out.size)
        refine (drawMostSnow_any vA _ len1 V1A.out hb1).mono ?_
        rintro e u1 ⟨y, l, rfl, hy, b1⟩
        have b2 := bt BA.out b1
        have X1 := Lib.hid (StdAt.new u1 y)
        have B1 := Lib.hid (b2.alloc b2.size (.cells #[.string ⟨y.id.toArray⟩, .int .i64 y.tr, .int .i64 y.he, .int .i64 y.co, .int .i64 y.ga] 34))
        clear b1 b2 V1A BA
        by_cases h1 : Fo.msC y l = 0
        focus
          obtain ⟨⟨m0, m1⟩, h2, h3, h4⟩ := Fo.fb h1
          have P1 := Lib.hid (fun W => implMostSnow_any y l W hy)
          have P2 := Lib.hid (fun W => implProtectionOf_any y (Fo.msV y l) W hy)
          have P3 := Lib.hid (fun W => implProtectionOf_any y (Fo.msV y l + 1) W hy)
          rw [h1] at P1
          rw [h2] at P2
          clear h1 h2 hy
          generalize Fo.poV y (Fo.msV y l + 1) = b at *
          generalize Fo.poC y (Fo.msV y l + 1) = c3 at *
          generalize Fo.poV y (Fo.msV y l) = a at *
          generalize Fo.msV y l = m at *
          have f1 : ¬ a < l := by omega
          have ew : IntKind.i64.wrap (m + 1) = m + 1 := IntWalk.i64_in _ (by omega)
          clear h3
          by_cases h5 : c3 = 0
          focus
            have f2 : ¬ l ≤ b := by have := h4 h5; omega
            subst h5
            clear h4
            obtain ⟨a0, a1, a2, a3, a4⟩ := X1.out.five
            go_wp2_with fail
            refine (P1.out _).mono ?_
            rintro e v2 ⟨rfl, bb⟩
            have B2 := Lib.hid (bt B1.out bb)
            have X2 := Lib.hid (X1.out.all bb)
            clear bb B1 X1
            clear a0 a1 a2 a3 a4
            obtain ⟨a0, a1, a2, a3, a4⟩ := X2.out.five
            go_wp2_with fail
            refine (P2.out _).mono ?_
            rintro e v3 ⟨rfl, bb⟩
            have B3 := Lib.hid (bt B2.out bb)
            have X3 := Lib.hid (X2.out.all bb)
            clear bb B2 X2
            clear a0 a1 a2 a3 a4
            obtain ⟨a0, a1, a2, a3, a4⟩ := X3.out.five
            go_wp2_with fail
            refine (P3.out _).mono ?_
            rintro e vB ⟨rfl, bb⟩
            have BB := Lib.hid (bt B3.out bb)
            clear bb B3 X3
            clear a0 a1 a2 a3 a4
            go_wp2_with fail
            clear f1 f2 ew P1 P2 P3
          rotate_left 1
          focus
            have f2 : (c3 == 0) = false := by simpa using h5
            clear h4
            obtain ⟨a0, a1, a2, a3, a4⟩ := X1.out.five
            go_wp2_with fail
            refine (P1.out _).mono ?_
            rintro e v2 ⟨rfl, bb⟩
            have B2 := Lib.hid (bt B1.out bb)
            have X2 := Lib.hid (X1.out.all bb)
            clear bb B1 X1
            clear a0 a1 a2 a3 a4
            obtain ⟨a0, a1, a2, a3, a4⟩ := X2.out.five
            go_wp2_with fail
            refine (P2.out _).mono ?_
            rintro e v3 ⟨rfl, bb⟩
            have B3 := Lib.hid (bt B2.out bb)
            have X3 := Lib.hid (X2.out.all bb)
            clear bb B2 X2
            clear a0 a1 a2 a3 a4
            obtain ⟨a0, a1, a2, a3, a4⟩ := X3.out.five
            go_wp2_with fail
            refine (P3.out _).mono ?_
            rintro e vB ⟨rfl, bb⟩
            have BB := Lib.hid (bt B3.out bb)
            clear bb B3 X3
            clear a0 a1 a2 a3 a4
            go_wp2_with fail
            clear f1 f2 ew P1 P2 P3
        rotate_left 2
        focus
          have P1 := Lib.hid (fun W => implMostSnow_any y l W hy)
          have f1 : (Fo.msC y l == 0) = false := by simpa using h1
          generalize Fo.msC y l = c1 at *
          generalize Fo.msV y l = m at *
          clear h1 hy
          obtain ⟨a0, a1, a2, a3, a4⟩ := X1.out.five
          go_wp2_with fail
          refine (P1.out _).mono ?_
          rintro e vB ⟨rfl, bb⟩
          have BB := Lib.hid (bt B1.out bb)
          clear bb B1 X1
          clear a0 a1 a2 a3 a4
          go_wp2_with fail
          clear f1 P1)
      all_goals (
        have V0B := Lib.hid (bsMono (V0.out.below BB.out) BB.out.size)
        refine (drawYearsUntil_any vB _ len0 V0B.out hb0).mono ?_
        rintro e t1 ⟨z, g, k, rfl, hz, b1⟩
        have b2 := bt BB.out b1
        have X1 := Lib.hid (StdAt.new t1 z)
        have B1 := Lib.hid (b2.alloc b2.size (.cells #[.string ⟨z.id.toArray⟩, .int .i64 z.tr, .int .i64 z.he, .int .i64 z.co, .int .i64 z.ga] 34))
        clear b1 b2 V0B BB
        by_cases h1 : Fo.yuC z g k = 0
        · obtain ⟨⟨m0, m1⟩, h2, h3, h4, h5⟩ := Fo.fc2 h1
          have P1 := Lib.hid (fun W => implYearsUntil_any z g k W hz)
          have P2 := Lib.hid (fun W => implGrowStand_any z (Fo.yuV z g k) W hz)
          have P3 := Lib.hid (fun W => implProtectionOf_any (Fo.grS z (Fo.yuV z g k)) g W (Fo.grS_id hz))
          rw [h1] at P1
          rw [h2] at P2
          rw [h3] at P3
          clear h1 h2 h3
          generalize Fo.poV (Fo.grS z (Fo.yuV z g k)) g = c at *
          generalize Fo.grS z (Fo.yuV z g k) = o at *
          have f1 : ¬ c < k := by omega
          clear h4
          by_cases h6 : Fo.yuV z g k = 0
          · generalize Fo.yuV z g k = m at *
            subst h6
            clear h5 hz m0 m1
            obtain ⟨a0, a1, a2, a3, a4⟩ := X1.out.five
            go_wp2_with fail
            refine (P1.out _).mono ?_
            rintro e v2 ⟨rfl, bb⟩
            have B2 := Lib.hid (bt B1.out bb)
            have X2 := Lib.hid (X1.out.all bb)
            clear bb B1 X1
            clear a0 a1 a2 a3 a4
            obtain ⟨a0, a1, a2, a3, a4⟩ := X2.out.five
            go_wp2_with fail
            refine (P2.out _).mono ?_
            rintro e v3 ⟨rfl, bb⟩
            have B3 := Lib.hid (bt B2.out bb)
            have X3 := Lib.hid (X2.out.all bb)
            clear bb B2 X2
            clear a0 a1 a2 a3 a4
            have Y3 := X3
            have X4 := Lib.hid (StdAt.new v3 o)
            have B4 := Lib.hid (B3.out.alloc B3.out.size (.cells #[.string ⟨o.id.toArray⟩, .int .i64 o.tr, .int .i64 o.he, .int .i64 o.co, .int .i64 o.ga] 34))
            clear B3
            have Y4 := Lib.hid (Y3.out.alloc (.cells #[.string ⟨o.id.toArray⟩, .int .i64 o.tr, .int .i64 o.he, .int .i64 o.co, .int .i64 o.ga] 34))
            clear X3 Y3
            obtain ⟨a0, a1, a2, a3, a4⟩ := X4.out.five
            go_wp2_with fail
            refine (P3.out _).mono ?_
            rintro e v4 ⟨rfl, bb⟩
            have B5 := Lib.hid (bt B4.out bb)
            clear bb B4 X4
            clear a0 a1 a2 a3 a4
            go_wp2_with fail
            go_ret
            exact ⟨rfl, B5.out⟩
          · obtain ⟨g1, g2, g3⟩ := h5 h6
            have P4 := Lib.hid (fun W => implGrowStand_any z (Fo.yuV z g k - 1) W hz)
            have P5 := Lib.hid (fun W => implProtectionOf_any (Fo.grS z (Fo.yuV z g k - 1)) g W (Fo.grS_id hz))
            rw [g1] at P4
            rw [g2] at P5
            clear h5 g1 g2 hz
            generalize Fo.poV (Fo.grS z (Fo.yuV z g k - 1)) g = d at *
            generalize Fo.grS z (Fo.yuV z g k - 1) = i at *
            generalize Fo.yuV z g k = m at *
            have f2 : (m == 0) = false := by simpa using h6
            have ew : IntKind.i64.wrap (m - 1) = m - 1 := IntWalk.i64_in _ (by omega)
            obtain ⟨a0, a1, a2, a3, a4⟩ := X1.out.five
            go_wp2_with fail
            refine (P1.out _).mono ?_
            rintro e v2 ⟨rfl, bb⟩
            have B2 := Lib.hid (bt B1.out bb)
            have X2 := Lib.hid (X1.out.all bb)
            clear bb B1 X1
            clear a0 a1 a2 a3 a4
            obtain ⟨a0, a1, a2, a3, a4⟩ := X2.out.five
            go_wp2_with fail
            refine (P2.out _).mono ?_
            rintro e v3 ⟨rfl, bb⟩
            have B3 := Lib.hid (bt B2.out bb)
            have X3 := Lib.hid (X2.out.all bb)
            clear bb B2 X2
            clear a0 a1 a2 a3 a4
            have Y3 := X3
            have X4 := Lib.hid (StdAt.new v3 o)
            have B4 := Lib.hid (B3.out.alloc B3.out.size (.cells #[.string ⟨o.id.toArray⟩, .int .i64 o.tr, .int .i64 o.he, .int .i64 o.co, .int .i64 o.ga] 34))
            clear B3
            have Y4 := Lib.hid (Y3.out.alloc (.cells #[.string ⟨o.id.toArray⟩, .int .i64 o.tr, .int .i64 o.he, .int .i64 o.co, .int .i64 o.ga] 34))
            clear X3 Y3
            obtain ⟨a0, a1, a2, a3, a4⟩ := X4.out.five
            go_wp2_with fail
            refine (P3.out _).mono ?_
            rintro e v4 ⟨rfl, bb⟩
            have B5 := Lib.hid (bt B4.out bb)
            have Y5 := Lib.hid (Y4.out.all bb)
            clear bb B4 X4 Y4
            clear a0 a1 a2 a3 a4
            obtain ⟨a0, a1, a2, a3, a4⟩ := Y5.out.five
            go_wp2_with fail
            refine (P4.out _).mono ?_
            rintro e v5 ⟨rfl, bb⟩
            have B6 := Lib.hid (bt B5.out bb)
            clear bb B5 Y5
            clear a0 a1 a2 a3 a4
            have X7 := Lib.hid (StdAt.new v5 i)
            have B7 := Lib.hid (B6.out.alloc B6.out.size (.cells #[.string ⟨i.id.toArray⟩, .int .i64 i.tr, .int .i64 i.he, .int .i64 i.co, .int .i64 i.ga] 34))
            clear B6
            obtain ⟨a0, a1, a2, a3, a4⟩ := X7.out.five
            go_wp2_with fail
            refine (P5.out _).mono ?_
            rintro e v6 ⟨rfl, bb⟩
            have B8 := Lib.hid (bt B7.out bb)
            clear bb B7 X7
            clear a0 a1 a2 a3 a4
            go_wp2_with fail
            go_ret
            exact ⟨rfl, B8.out⟩
        · have h2 := Fo.fc1 h1
          have P1 := Lib.hid (fun W => implYearsUntil_any z g k W hz)
          rw [h2] at P1
          have f1 : (Fo.yuC z g k != 0) = true := by simpa using h1
          generalize Fo.yuC z g k = c1 at *
          clear h1 h2 hz
          obtain ⟨a0, a1, a2, a3, a4⟩ := X1.out.five
          go_wp2_with fail
          refine (P1.out _).mono ?_
          rintro e v2 ⟨rfl, bb⟩
          have B2 := Lib.hid (bt B1.out bb)
          clear bb B1 X1
          clear a0 a1 a2 a3 a4
          go_wp2_with fail
          go_ret
          exact ⟨rfl, B2.out⟩)
    · clear w0 w1
      go_enter Try.func12, Try.ntmps12
      go_wp2_with fail
      refine (b10Long_no w _ len0 _ hb0).mono ?_
      rintro e w' ⟨rfl, rfl⟩
      go_wp2_with fail
      refine (b10Long_yes w _ len1 _ (by omega)).mono ?_
      rintro e w' ⟨rfl, rfl⟩
      go_wp2_with fail
      go_ret
      exact ⟨rfl, Below.refl _ _⟩
  · clear w0 w1
    go_enter Try.func12, Try.ntmps12
    go_wp2_with fail
    refine (b10Long_yes w _ len0 _ (by omega)).mono ?_
    rintro e w' ⟨rfl, rfl⟩
    go_wp2_with fail
    go_ret
    exact ⟨rfl, Below.refl _ _⟩
end Go.Proofs.Ytecobplmkdlagaa.fnForest

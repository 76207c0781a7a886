/-
  The steepest slope and where it leads, by the program. The conditions: the table of ways as it is laid.
-/
import Derived.Test.YtobcflcmlejajabDoorTrL
import Derived.Test.YtobcflcmlejajabDoorGdA
namespace Go.Proofs.YtobcflcmlejajabDoor
open Go.RowKit Go.Shelf Go.Deep
set_option linter.unusedVariables false
set_option maxRecDepth 100000
theorem sp_eq (r c s : Int) (zs : List Int) (k : Int) : (Gw.sdE r c s zs k ≠ 0 ∧ Gw.spR r c s zs k = (0, 0, Gw.sdE r c s zs k)) ∨ (Gw.sdE r c s zs k = 0 ∧ ∃ a : Nat, Gw.sdO r c s zs k = some a ∧
    Gw.spR r c s zs k = (Gw.slO r c s zs k.toNat (some a), Gw.rwA c k.toNat a * c + Gw.clA c k.toNat a, 0) ∧ wrap64 (Gw.rwA c k.toNat a * c) = Gw.rwA c k.toNat a * c ∧ wrap64 (Gw.rwA c k.toNat a * c + Gw.clA c k.toNat a) = Gw.rwA c k.toNat a * c + Gw.clA c k.toNat a) := by
  cases hq : Gw.ok r c s zs with
  | false => rw [Gw.sp_bad hq, (Gw.sd_bad hq).2]; exact Or.inl ⟨by decide, rfl⟩
  | true =>
    cases hi : Gw.isCell r c k with
    | false => rw [Gw.sp_out hq hi, (Gw.sd_out hq hi).2]; exact Or.inl ⟨by decide, rfl⟩
    | true =>
      have G := (Gw.ok_iff _ _ _ _).1 hq
      have hkn : ((k.toNat : Nat) : Int) = k := Int.toNat_of_nonneg (Gw.isCell_bd hi G.r1 G.r2 G.c1 G.c2).1
      rw [(Gw.sd_in hq hi).1, (Gw.sd_in hq hi).2]
      rcases Gw.best_upto (r := r) (c := c) (zs := zs) G.s1 G.s2 k.toNat 8 with ⟨h1, h2⟩ | ⟨i, h1, h2, h3, h4⟩
      · rw [Gw.sp_none hq hi (by rw [h2]; show (-1 : Int) < 0; omega), h2]; exact Or.inl ⟨by decide, rfl⟩
      · have hn : ¬ (Gw.stp r c s zs k.toNat 8).1 < 0 := by rw [h3]; simp only; omega
        have hg := (Gw.dnB_drp.1 h4).1
        have hd : Gw.goC r c k.toNat i = Gw.rwA c k.toNat i * c + Gw.clA c k.toNat i := by unfold Gw.goC; rw [if_pos hg]
        have hb := hg
        unfold Gw.goB Gw.isAt at hb
        rw [Bool.and_eq_true] at hb
        obtain ⟨y1, y2⟩ := Gw.inB_iff.1 hb.1
        obtain ⟨y3, y4⟩ := Gw.inB_iff.1 hb.2
        have := G.r2; have := G.c1; have := G.c2
        obtain ⟨e1, e2, e3, e4⟩ := Gw.cell_bd y1 (by omega) y3 (by omega) G.c1 G.c2
        refine Or.inr ⟨if_neg hn, i, h1, ?_, IntWalk.wrap64_in _ ⟨by omega, by omega⟩, IntWalk.wrap64_in _ ⟨by omega, by omega⟩⟩
        rw [Gw.sp_yes hq hi hn, h3, ← hd]
        simp only [Int.toNat_natCast, Gw.slO]
        rw [hkn]
set_option maxHeartbeats 3200000 in
theorem implSteepestOf_any (w : World) (r c s : Int) (v : Value) (zs : List Int) (k : Int) (ho : IAt w v zs) (hl : zs.length ≤ 1048576) (hA : AspAt w) :
    Calls Tryd.prog 29 #[.agg #[.int .i64 r, .int .i64 c, .int .i64 s, v], .int .i64 k] w fun e w' => e = .returned (.tuple #[.int .i64 (Gw.spR r c s zs k).1, .int .i64 (Gw.spR r c s zs k).2.1, .int .i64 (Gw.spR r c s zs k).2.2]) ∧ Below w.heap.size w w' := by
  have HB := Lib.hid (boxG_below w r c s v 28)
  have HK := Lib.hid (fun W (h : Below (boxG w r c s v 28).heap.size (boxG w r c s v 28) W) => (boxG_kept h : GC W w.heap.size r c s v))
  have C := Lib.hid (steepestDown_any (boxG w r c s v 28) r c s v zs k (ho.all HB.out) hl (hA.below HB.out))
  rw [stC_eq] at C
  clear ho hA
  rcases sp_eq r c s zs k with ⟨h1, h2⟩ | ⟨h1, a, ha, h2, hw1, hw2⟩
  · have E := Lib.hid h2
    generalize Gw.sdO r c s zs k = o at *
    generalize Gw.sdE r c s zs k = e0 at *
    generalize dO o = x0 at *
    generalize rO c k.toNat o = x1 at *
    generalize cO c k.toNat o = x2 at *
    generalize dnO r c zs k.toNat o = x3 at *
    generalize Gw.slO r c s zs k.toNat o = x4 at *
    clear h2
    unfold boxG at C
    go_enter Tryd.func29, Tryd.ntmps29
    go_wp2_with fail
    refine C.out.mono ?_
    rintro e w1 ⟨rfl, b1⟩
    have B1 := Lib.hid (bt HB.out b1)
    have BA := Lib.hid (B1.out.alloc B1.out.size (.cells #[.int .i64 x0, .int .i64 x1, .int .i64 x2, .int .i64 x3, .int .i64 x4] 61))
    clear b1
    go_wp2_with fail
    exact bodyPost_ret (v := .tuple #[.int .i64 0, .int .i64 0, .int .i64 e0]) (by simp [results, Tryd.results29, go_sem]) rfl ⟨by rw [E.out], BA.out⟩
  · have E := Lib.hid h2
    rw [h1, ha] at C
    have CP := Lib.hid (fun W => placeCell_any (Gw.rwA c k.toNat a) (Gw.clA c k.toNat a) c W hw1 hw2)
    have q1 : rO c k.toNat (some a) = Gw.rwA c k.toNat a := rfl
    have q2 : cO c k.toNat (some a) = Gw.clA c k.toNat a := rfl
    rw [q1, q2] at C
    clear h1 ha h2 hw1 hw2 q1 q2
    generalize dO (some a) = x0 at *
    generalize Gw.rwA c k.toNat a = x1 at *
    generalize Gw.clA c k.toNat a = x2 at *
    generalize dnO r c zs k.toNat (some a) = x3 at *
    generalize Gw.slO r c s zs k.toNat (some a) = x4 at *
    unfold boxG at C
    go_enter Tryd.func29, Tryd.ntmps29
    go_wp2_with fail
    refine C.out.mono ?_
    rintro e w1 ⟨rfl, b1⟩
    have B1 := Lib.hid (bt HB.out b1)
    have N1 := Lib.hid b1
    have NA : Hid (Below (boxG w r c s v 28).heap.size (boxG w r c s v 28) (w1.alloc (.cells #[.int .i64 x0, .int .i64 x1, .int .i64 x2, .int .i64 x3, .int .i64 x4] 61))) := Lib.hid (Below.alloc b1 b1.size _)
    have BA := Lib.hid (B1.out.alloc B1.out.size (.cells #[.int .i64 x0, .int .i64 x1, .int .i64 x2, .int .i64 x3, .int .i64 x4] 61))
    have TA := Lib.hid (Whole.new w1 61 #[.int .i64 x0, .int .i64 x1, .int .i64 x2, .int .i64 x3, .int .i64 x4])
    clear b1
    go_wp2_with fail
    generalize w1.alloc (.cells #[.int .i64 x0, .int .i64 x1, .int .i64 x2, .int .i64 x3, .int .i64 x4] 61) = W2 at *
    have KK : Hid (∀ W, Below W2.heap.size W2 W → W.cell? ⟨w.heap.size, 1, none⟩ = some (.int .i64 c) ∧ W.cell? ⟨w1.heap.size, 1, none⟩ = some (.int .i64 x1) ∧ W.cell? ⟨w1.heap.size, 2, none⟩ = some (.int .i64 x2) ∧ W.cell? ⟨w1.heap.size, 4, none⟩ = some (.int .i64 x4)) := Lib.hid (fun W h => ⟨(HK.out W (bt NA.out h)).four.2.1, (TA.out.all h).at_ 1, (TA.out.all h).at_ 2, (TA.out.all h).at_ 4⟩)
    obtain ⟨y0, y1, y2, y3⟩ := KK.out _ (Below.refl _ _)
    go_region_held3 (fun w' => w'.cell? ⟨w.heap.size, 1, none⟩ = some (.int .i64 c) ∧ w'.cell? ⟨w1.heap.size, 1, none⟩ = some (.int .i64 x1) ∧ w'.cell? ⟨w1.heap.size, 2, none⟩ = some (.int .i64 x2) ∧ w'.cell? ⟨w1.heap.size, 4, none⟩ = some (.int .i64 x4)) (go_keep)
      (first
        | (go_at_call 70; refine (CP.out _).mono ?_; rintro e wA ⟨rfl, bA⟩; have BB := Lib.hid (bt (below_drewW W2 1) bA); clear bA; obtain ⟨y0, y1, y2, y3⟩ := KK.out _ BB.out))
    all_goals (
      go_wp2_with fail
      exact bodyPost_ret (v := .tuple #[.int .i64 x4, .int .i64 (x1 * c + x2), .int .i64 0]) (by simp [results, Tryd.results29, go_sem]) rfl ⟨by rw [E.out], bt BA.out BB.out⟩)
end Go.Proofs.YtobcflcmlejajabDoor

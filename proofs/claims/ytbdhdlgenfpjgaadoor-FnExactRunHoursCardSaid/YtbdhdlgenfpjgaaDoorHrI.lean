/-
  A profile with the forms of its temperatures: by the program. Its condition: impl.formRules holds what the program's text lays.
-/
import Derived.Test.YtbdhdlgenfpjgaaDoorHrH
import Derived.Laws.AppendOwn
import Derived.Lib.SliceRun
import Derived.WalkMore
import Derived.Deep.LoopGhost
namespace Go.Proofs.YtbdhdlgenfpjgaaDoor
open Go.RowKit Go.Shelf
set_option linter.unusedVariables false
set_option maxRecDepth 100000


set_option maxHeartbeats 1600000 in
theorem clone_own (B b cap : Nat) (w : World) (xs : List Lay) (ho : LOwn B w (.slice (some ⟨b, 0, none⟩) xs.length cap) xs) (hl : xs.length ≤ 1048576) :
    Calls Tryd.prog 24 #[.slice (some ⟨b, 0, none⟩) xs.length cap] w (RL w xs) := by
  obtain ⟨i0, hi, hz0, hz1, hz2⟩ := info_parts info_layer
  have HO := Lib.hid ho
  have HC : Hid (∀ W, Below w.heap.size w W → ∀ j u, (iv (La.fl xs))[j]? = some u → W.cell? ((⟨b, 0, none⟩ : Addr).add j) = some u) := Lib.hid (fun W h j u hj => World.ownsRow.cells (HO.out.belowAll h) (g := b) rfl j u hj)
  have HL : Hid ((iv (La.fl xs)).length = xs.length * 7) := Lib.hid (by rw [iv_length, La.fl_length, Nat.mul_comm])
  clear ho
  go_enter Tryd.func24, Tryd.ntmps24
  go_wp2
  rw [Lib.run_eql_slice_nil w 25 _ (some _) _ _ _ _ Tryd.underlying25]
  simp only [Result.andThen]
  rw [Oper.upon_value]
  go_wp2_with (at_builtin; refine wpList_append_own _ rfl _ _ 25 rfl w.heap.size 42 i0 _ 7 56 Tryd.underlying25 hi hz0 hz1 hz2 rfl (by decide) _ 0 [] rfl (World.ownsRow_lit _ _ _ (Nat.le_refl _) (by decide) (by decide)) ⟨b, 0, none⟩ xs.length cap (iv (La.fl xs)) rfl HL.out (HC.out _ ((Below.refl _ _).alloc (Nat.le_refl _) _)) (iv_cell _) ?c3 ?c4 ?c5 ?_)
  case c3 => unfold maxLen; omega
  case c4 => omega
  case c5 => first | omega | (simp; done) | (simp; omega)
  intro v' w3 hown' hgrow hnil
  have hform : ∃ g cap', v' = .slice (some ⟨g, 0, none⟩) xs.length cap' := by
    rcases Go.Joins.ownsRow_forms hown' with ⟨hv, -⟩ | ⟨g, cap', hv⟩
    · exact absurd hv (by simpa using hnil)
    · exact ⟨g, cap', by simpa using hv⟩
  obtain ⟨g, cap', rfl⟩ := hform
  have hnx : Hid (LOwn w.heap.size w3 (.slice (some ⟨g, 0, none⟩) xs.length cap') xs) := Lib.hid (by unfold LOwn; simpa using hown')
  have hnb : Hid (Below w.heap.size w w3) := Lib.hid (((Below.refl w.heap.size w).alloc (Nat.le_refl _) _).grown hgrow (by simp) (fun j hj => by
    first | (simp only [Value.ownBlock, Option.some.injEq] at hj; done) | (simp only [Value.ownBlock, Option.some.injEq] at hj; omega)))
  clear hown' hgrow hnil
  go_wp2
  go_ret
  exact RL.yes rfl hnx.out hnb.out
/-- the row behind a form that is written -/
theorem LOwn.form1 {B n cap g : Nat} {w : World} {xs : List Lay} {k : Nat} (hk : k < xs.length) (ho : LOwn B w (.slice (some ⟨g, 0, none⟩) n cap) ((La.chf xs).take k ++ xs.drop k)) {f : Int} (h : La.frm xs[k] (La.stp xs k) = f) :
    LOwn B (w.setCell ⟨g, k * 7, none⟩ (.int .i64 f)) (.slice (some ⟨g, 0, none⟩) n cap) ((La.chf xs).take (k + 1) ++ xs.drop (k + 1)) := by
  have := ho.put1 (La.fwd_len hk) 0 (by omega) f (La.lfm xs k) (by rw [La.fwd_get hk, La.lfm_eq hk h]; rfl)
  rwa [La.fwd_set hk, Nat.add_zero] at this
theorem LOwn.form0 {B n cap g : Nat} {w : World} {xs : List Lay} {k : Nat} (hk : k < xs.length) (ho : LOwn B w (.slice (some ⟨g, 0, none⟩) n cap) ((La.chf xs).take k ++ xs.drop k)) (h : La.frm xs[k] (La.stp xs k) = xs[k].fo) :
    LOwn B w (.slice (some ⟨g, 0, none⟩) n cap) ((La.chf xs).take (k + 1) ++ xs.drop (k + 1)) := by
  rw [← La.fwd_same hk (by rw [La.lfm_eq hk h])]; exact ho
theorem index_0 (w : World) : (Instr.index 70 (.agg #[.int .i64 5, .int .i64 0, .int .i64 2000, .int .i64 72, .int .i64 4, .int .i64 0, .int .i64 1000, .int .i64 24, .int .i64 2, .int .i64 1, .int .i64 0, .int .i64 48, .int .i64 3, .int .i64 2, .int .i64 0, .int .i64 120]) (.int .i64 0)).run Tryd.prog w = .ok (.agg #[.int .i64 5, .int .i64 0, .int .i64 2000, .int .i64 72]) w := by kernel_rfl
theorem index_1 (w : World) : (Instr.index 70 (.agg #[.int .i64 5, .int .i64 0, .int .i64 2000, .int .i64 72, .int .i64 4, .int .i64 0, .int .i64 1000, .int .i64 24, .int .i64 2, .int .i64 1, .int .i64 0, .int .i64 48, .int .i64 3, .int .i64 2, .int .i64 0, .int .i64 120]) (.int .i64 1)).run Tryd.prog w = .ok (.agg #[.int .i64 4, .int .i64 0, .int .i64 1000, .int .i64 24]) w := by kernel_rfl
theorem index_2 (w : World) : (Instr.index 70 (.agg #[.int .i64 5, .int .i64 0, .int .i64 2000, .int .i64 72, .int .i64 4, .int .i64 0, .int .i64 1000, .int .i64 24, .int .i64 2, .int .i64 1, .int .i64 0, .int .i64 48, .int .i64 3, .int .i64 2, .int .i64 0, .int .i64 120]) (.int .i64 2)).run Tryd.prog w = .ok (.agg #[.int .i64 2, .int .i64 1, .int .i64 0, .int .i64 48]) w := by kernel_rfl
theorem index_3 (w : World) : (Instr.index 70 (.agg #[.int .i64 5, .int .i64 0, .int .i64 2000, .int .i64 72, .int .i64 4, .int .i64 0, .int .i64 1000, .int .i64 24, .int .i64 2, .int .i64 1, .int .i64 0, .int .i64 48, .int .i64 3, .int .i64 2, .int .i64 0, .int .i64 120]) (.int .i64 3)).run Tryd.prog w = .ok (.agg #[.int .i64 3, .int .i64 2, .int .i64 0, .int .i64 120]) w := by kernel_rfl
set_option maxHeartbeats 25600000 in
theorem changedForms_any (B b cap : Nat) (w : World) (xs : List Lay) (ho : LOwn B w (.slice (some ⟨b, 0, none⟩) xs.length cap) xs) (hq : La.okP xs = true) (hR : Rules w) :
    Calls Tryd.prog 45 #[.slice (some ⟨b, 0, none⟩) xs.length cap] w (RL w (La.chf xs)) := by
  have h16 := ((La.okP_iff xs).1 hq).1
  have C := Lib.hid (clone_own B b cap w xs ho (by omega))
  have HO := Lib.hid ho
  have HQ := Lib.hid hq
  have HR := Lib.hid hR
  clear ho hq hR
  go_enter Tryd.func45, Tryd.ntmps45
  go_wp2_with fail
  go_step3
  go_wp2_with fail
  refine C.out.mono ?_
  rintro e w1 ⟨g, cap1, rfl, o1, b1⟩
  have hg := o1.base
  have O1 := Lib.hid o1
  have B1 := Lib.hid b1
  clear o1 b1 C
  go_wp2_with fail
  go_step3
  go_wp2_with fail
  go_loopg [13] xs.length (fun gh i wr => ∃ k : Nat, k + gh = xs.length ∧ i = .int .i64 k ∧ Hid (LOwn w.heap.size wr (.slice (some ⟨g, 0, none⟩) xs.length cap1) ((La.chf xs).take k ++ xs.drop k)) ∧ Hid (Below w.heap.size w wr))
  case atStart => exact ⟨0, by omega, rfl, Lib.hid (by simpa using O1.out), B1⟩
  case round =>
    obtain ⟨k, hk, rfl, ho, hb⟩ := hrel
    by_cases hlt : k < xs.length
    · obtain ⟨gh, rfl⟩ : ∃ gh, gk = gh + 1 := ⟨gk - 1, by omega⟩
      have hltz : (k : Int) < (xs.length : Int) := by omega
      have hk0 : (0 : Int) ≤ k := by omega
      obtain ⟨c0, c1, c2, c3, c4, c5, c6⟩ := (HO.out.belowAll hb.out).cells hlt
      have hsz := hb.out.size
      have hgl := (World.ownsRow.lt ho.out g rfl).2
      have HS := Lib.hid (La.stp_bd HQ.out hlt)
      by_cases hm : 0 < xs[k].wa ∨ xs[k].fo = 6
      · have N : Hid (∀ W, LOwn w.heap.size W (.slice (some ⟨g, 0, none⟩) xs.length cap1) ((La.chf xs).take k ++ xs.drop k) → LOwn w.heap.size (W.setCell ⟨g, k * 7, none⟩ (.int .i64 6)) (.slice (some ⟨g, 0, none⟩) xs.length cap1) ((La.chf xs).take (k + 1) ++ xs.drop (k + 1))) := Lib.hid (fun W h => h.form1 hlt (La.frm_melt hm))
        have X0 : Hid (∃ u, wr.cell? ⟨g, k * 7, none⟩ = some u) := Lib.hid ⟨_, (ho.out.cells (La.fwd_len hlt)).c0⟩
        obtain ⟨x0, hx0⟩ := X0.out
        have fz := ho.out.free (k * 7)
        have HBA : Hid (∀ o, Below w.heap.size w ((wr.alloc o).setCell ⟨g, k * 7, none⟩ (.int .i64 6))) := Lib.hid (fun o => (hb.out.alloc hsz o).setCell (p := ⟨g, k * 7, none⟩) hg _)
        have HOA : Hid (∀ o, LOwn w.heap.size (wr.alloc o) (.slice (some ⟨g, 0, none⟩) xs.length cap1) ((La.chf xs).take k ++ xs.drop k)) := Lib.hid (fun o => World.ownsRow.alloc ho.out o)
        by_cases hw : 0 < xs[k].wa
        · clear hm
          generalize xs[k] = x at *
          go_wp2_with fail
          go_roundg gh
          case measure => omega
          case rel => exact ⟨k + 1, by omega, by go_num, Lib.hid (World.ownsRow.alloc (N.out _ ho.out) _), Lib.hid ((hb.out.setCell (p := ⟨g, k * 7, none⟩) hg _).alloc (hb.out.setCell (p := ⟨g, k * 7, none⟩) hg _).size _)⟩
        · have h6 : (xs[k].fo == 6) = true := by
            rcases hm with h | h
            · omega
            · rw [h]; rfl
          clear hm
          generalize xs[k] = x at *
          go_wp2_with fail
          go_roundg gh
          case measure => omega
          case rel => exact ⟨k + 1, by omega, by go_num, Lib.hid (World.ownsRow.alloc (N.out _ ho.out) _), Lib.hid ((hb.out.setCell (p := ⟨g, k * 7, none⟩) hg _).alloc (hb.out.setCell (p := ⟨g, k * 7, none⟩) hg _).size _)⟩
      · have hw : ¬ 0 < xs[k].wa := fun h => hm (Or.inl h)
        have h6n : ¬ xs[k].fo = 6 := fun h => hm (Or.inr h)
        have h6 : (xs[k].fo == 6) = false := beq_eq_false_iff_ne.2 h6n
        have FR : Hid (∀ i, i < 4 → (∀ m, m < i → La.ra m xs[k] (La.stp xs k) = false) → La.ra i xs[k] (La.stp xs k) = true → La.frm xs[k] (La.stp xs k) = La.rf i) := Lib.hid (fun i hi hn hy => La.frm_rule hw h6n HS.out.1 hi hn hy)
        have FN : Hid ((∀ m, m < 4 → La.ra m xs[k] (La.stp xs k) = false) → La.frm xs[k] (La.stp xs k) = xs[k].fo) := Lib.hid (fun hn => La.frm_none hw h6n HS.out.1 hn)
        have NF : Hid (∀ W f, La.frm xs[k] (La.stp xs k) = f → LOwn w.heap.size W (.slice (some ⟨g, 0, none⟩) xs.length cap1) ((La.chf xs).take k ++ xs.drop k) → LOwn w.heap.size (W.setCell ⟨g, k * 7, none⟩ (.int .i64 f)) (.slice (some ⟨g, 0, none⟩) xs.length cap1) ((La.chf xs).take (k + 1) ++ xs.drop (k + 1))) := Lib.hid (fun W f hf h => h.form1 hlt hf)
        have N0 : Hid (∀ W, La.frm xs[k] (La.stp xs k) = xs[k].fo → LOwn w.heap.size W (.slice (some ⟨g, 0, none⟩) xs.length cap1) ((La.chf xs).take k ++ xs.drop k) → LOwn w.heap.size W (.slice (some ⟨g, 0, none⟩) xs.length cap1) ((La.chf xs).take (k + 1) ++ xs.drop (k + 1))) := Lib.hid (fun W hf h => h.form0 hlt hf)
        have CG := Lib.hid (fun W (h : Below wr.heap.size wr W) => greatest_any B b cap W xs k (HO.out.belowAll (bt hb.out h)) HQ.out hlt)
        have LZ : Hid (∀ W, Below wr.heap.size wr W → (∃ u, W.cell? ⟨g, k * 7, none⟩ = some u) ∧ W.frozen? ⟨g, k * 7, none⟩ = false) := Lib.hid (fun W h => ⟨⟨_, ((ho.out.belowAll h).cells (La.fwd_len hlt)).c0⟩, (ho.out.belowAll h).free (k * 7)⟩)
        clear hm h6n
        generalize La.stp xs k = gr at *
        generalize xs[k] = x at *
        go_wp2_with fail
        refine (CG.out _ ((Below.refl _ _).alloc (Nat.le_refl _) _)).mono ?_
        rintro e wx ⟨rfl, bx⟩
        have HX := Lib.hid (boxed_kept (w := wr) (x := x) (t := 42) bx)
        have bwx : Below wr.heap.size wr wx := ((Below.refl _ _).alloc (Nat.le_refl _) _).trans (bx.mono (by simp))
        have BWX := Lib.hid bwx
        have RX := Lib.hid ((HR.out.below hb.out).below bwx)
        obtain ⟨⟨r0, r1, r2, r3⟩, ⟨r4, r5, r6, r7⟩, ⟨r8, r9, r10, r11⟩, ⟨r12, r13, r14, r15⟩⟩ := RX.out.cells
        clear bx bwx c0 c1 c2 c3 c4 c5 c6 CG
        go_wp2_with fail
        clear r0 r1 r2 r3 r4 r5 r6 r7 r8 r9 r10 r11 r12 r13 r14 r15
        have hx := wx
        clear hx
        go_loopg [34] 4 (fun gj i wj => ∃ j : Nat, j + gj = 4 ∧ i = .int .i64 j ∧ Hid (∀ m, m < j → La.ra m x gr = false) ∧ Hid (Below wx.heap.size wx wj))
        case atStart => exact ⟨0, by omega, rfl, Lib.hid (fun m hm => absurd hm (Nat.not_lt_zero _)), Lib.hid (Below.refl _ _)⟩
        case round =>
          obtain ⟨j, hjg, rfl, hno, hbj⟩ := hrel
          have hj5 : j = 0 ∨ j = 1 ∨ j = 2 ∨ j = 3 ∨ j = 4 := by omega
          have BJ := Lib.hid (bt BWX.out hbj.out)
          have HOJ := Lib.hid (ho.out.belowAll BJ.out)
          obtain ⟨c0, c1, c2, c3, c4, c5, c6⟩ := (HX.out.below hbj.out (World.block_lt_of_cell? wx _ HX.out.c0)).zero
          have hlq := World.block_lt_of_cell? _ _ c0
          rcases hj5 with rfl | rfl | rfl | rfl | rfl
          · obtain ⟨gj, rfl⟩ : ∃ gj, gk = gj + 1 := ⟨gk - 1, by omega⟩
            have hix := index_0
            have CA := Lib.hid (fun W => appliesTo_any 5 0 2000 72 x gr W)
            cases hra : La.ra 0 x gr with
            | true =>
              have hra' : La.apl 0 2000 72 x gr = true := hra
              have HF := Lib.hid (FR.out 0 (by omega) hno.out hra)
              rw [hra'] at CA
              clear hra hra' hno
              go_wp2_with fail
              refine (CA.out _).mono ?_
              rintro e wz ⟨rfl, bz⟩
              have WZ := Lib.hid ((Whole.new _ _ _).all bz)
              have d0 := WZ.out.at_ 0
              have bz2 := bt ((Below.refl _ _).alloc (Nat.le_refl _) _) bz
              have BZ := Lib.hid (bt BJ.out bz2)
              obtain ⟨⟨x0, hx0⟩, fz⟩ := LZ.out _ BZ.out
              clear bz bz2 c0 c1 c2 c3 c4 c5 c6
              go_wp2_with fail
              go_roundg gh
              case measure => omega
              case rel => exact ⟨k + 1, by omega, by go_num, Lib.hid (NF.out _ _ HF.out (ho.out.belowAll BZ.out)), Lib.hid ((bt hb.out BZ.out).setCell (p := ⟨g, k * 7, none⟩) hg _)⟩
            | false =>
              have hra' : La.apl 0 2000 72 x gr = false := hra
              have HN : Hid (∀ m, m < 1 → La.ra m x gr = false) := Lib.hid (fun m hm => by
                  by_cases hme : m = 0
                  · rw [hme]; exact hra
                  · exact hno.out m (by omega))
              rw [hra'] at CA
              clear hra hra' hno
              go_wp2_with fail
              refine (CA.out _).mono ?_
              rintro e wz ⟨rfl, bz⟩
              have BZ := Lib.hid (bt hbj.out (bt ((Below.refl _ _).alloc (Nat.le_refl _) _) bz))
              clear bz c0 c1 c2 c3 c4 c5 c6
              go_wp2_with fail
              go_roundg gj
              case measure => omega
              case rel => exact ⟨1, by omega, by go_num, HN, BZ⟩
          · obtain ⟨gj, rfl⟩ : ∃ gj, gk = gj + 1 := ⟨gk - 1, by omega⟩
            have hix := index_1
            have CA := Lib.hid (fun W => appliesTo_any 4 0 1000 24 x gr W)
            cases hra : La.ra 1 x gr with
            | true =>
              have hra' : La.apl 0 1000 24 x gr = true := hra
              have HF := Lib.hid (FR.out 1 (by omega) hno.out hra)
              rw [hra'] at CA
              clear hra hra' hno
              go_wp2_with fail
              refine (CA.out _).mono ?_
              rintro e wz ⟨rfl, bz⟩
              have WZ := Lib.hid ((Whole.new _ _ _).all bz)
              have d0 := WZ.out.at_ 0
              have bz2 := bt ((Below.refl _ _).alloc (Nat.le_refl _) _) bz
              have BZ := Lib.hid (bt BJ.out bz2)
              obtain ⟨⟨x0, hx0⟩, fz⟩ := LZ.out _ BZ.out
              clear bz bz2 c0 c1 c2 c3 c4 c5 c6
              go_wp2_with fail
              go_roundg gh
              case measure => omega
              case rel => exact ⟨k + 1, by omega, by go_num, Lib.hid (NF.out _ _ HF.out (ho.out.belowAll BZ.out)), Lib.hid ((bt hb.out BZ.out).setCell (p := ⟨g, k * 7, none⟩) hg _)⟩
            | false =>
              have hra' : La.apl 0 1000 24 x gr = false := hra
              have HN : Hid (∀ m, m < 2 → La.ra m x gr = false) := Lib.hid (fun m hm => by
                  by_cases hme : m = 1
                  · rw [hme]; exact hra
                  · exact hno.out m (by omega))
              rw [hra'] at CA
              clear hra hra' hno
              go_wp2_with fail
              refine (CA.out _).mono ?_
              rintro e wz ⟨rfl, bz⟩
              have BZ := Lib.hid (bt hbj.out (bt ((Below.refl _ _).alloc (Nat.le_refl _) _) bz))
              clear bz c0 c1 c2 c3 c4 c5 c6
              go_wp2_with fail
              go_roundg gj
              case measure => omega
              case rel => exact ⟨2, by omega, by go_num, HN, BZ⟩
          · obtain ⟨gj, rfl⟩ : ∃ gj, gk = gj + 1 := ⟨gk - 1, by omega⟩
            have hix := index_2
            have CA := Lib.hid (fun W => appliesTo_any 2 1 0 48 x gr W)
            cases hra : La.ra 2 x gr with
            | true =>
              have hra' : La.apl 1 0 48 x gr = true := hra
              have HF := Lib.hid (FR.out 2 (by omega) hno.out hra)
              rw [hra'] at CA
              clear hra hra' hno
              go_wp2_with fail
              refine (CA.out _).mono ?_
              rintro e wz ⟨rfl, bz⟩
              have WZ := Lib.hid ((Whole.new _ _ _).all bz)
              have d0 := WZ.out.at_ 0
              have bz2 := bt ((Below.refl _ _).alloc (Nat.le_refl _) _) bz
              have BZ := Lib.hid (bt BJ.out bz2)
              obtain ⟨⟨x0, hx0⟩, fz⟩ := LZ.out _ BZ.out
              clear bz bz2 c0 c1 c2 c3 c4 c5 c6
              go_wp2_with fail
              go_roundg gh
              case measure => omega
              case rel => exact ⟨k + 1, by omega, by go_num, Lib.hid (NF.out _ _ HF.out (ho.out.belowAll BZ.out)), Lib.hid ((bt hb.out BZ.out).setCell (p := ⟨g, k * 7, none⟩) hg _)⟩
            | false =>
              have hra' : La.apl 1 0 48 x gr = false := hra
              have HN : Hid (∀ m, m < 3 → La.ra m x gr = false) := Lib.hid (fun m hm => by
                  by_cases hme : m = 2
                  · rw [hme]; exact hra
                  · exact hno.out m (by omega))
              rw [hra'] at CA
              clear hra hra' hno
              go_wp2_with fail
              refine (CA.out _).mono ?_
              rintro e wz ⟨rfl, bz⟩
              have BZ := Lib.hid (bt hbj.out (bt ((Below.refl _ _).alloc (Nat.le_refl _) _) bz))
              clear bz c0 c1 c2 c3 c4 c5 c6
              go_wp2_with fail
              go_roundg gj
              case measure => omega
              case rel => exact ⟨3, by omega, by go_num, HN, BZ⟩
          · obtain ⟨gj, rfl⟩ : ∃ gj, gk = gj + 1 := ⟨gk - 1, by omega⟩
            have hix := index_3
            have CA := Lib.hid (fun W => appliesTo_any 3 2 0 120 x gr W)
            cases hra : La.ra 3 x gr with
            | true =>
              have hra' : La.apl 2 0 120 x gr = true := hra
              have HF := Lib.hid (FR.out 3 (by omega) hno.out hra)
              rw [hra'] at CA
              clear hra hra' hno
              go_wp2_with fail
              refine (CA.out _).mono ?_
              rintro e wz ⟨rfl, bz⟩
              have WZ := Lib.hid ((Whole.new _ _ _).all bz)
              have d0 := WZ.out.at_ 0
              have bz2 := bt ((Below.refl _ _).alloc (Nat.le_refl _) _) bz
              have BZ := Lib.hid (bt BJ.out bz2)
              obtain ⟨⟨x0, hx0⟩, fz⟩ := LZ.out _ BZ.out
              clear bz bz2 c0 c1 c2 c3 c4 c5 c6
              go_wp2_with fail
              go_roundg gh
              case measure => omega
              case rel => exact ⟨k + 1, by omega, by go_num, Lib.hid (NF.out _ _ HF.out (ho.out.belowAll BZ.out)), Lib.hid ((bt hb.out BZ.out).setCell (p := ⟨g, k * 7, none⟩) hg _)⟩
            | false =>
              have hra' : La.apl 2 0 120 x gr = false := hra
              have HN : Hid (∀ m, m < 4 → La.ra m x gr = false) := Lib.hid (fun m hm => by
                  by_cases hme : m = 3
                  · rw [hme]; exact hra
                  · exact hno.out m (by omega))
              rw [hra'] at CA
              clear hra hra' hno
              go_wp2_with fail
              refine (CA.out _).mono ?_
              rintro e wz ⟨rfl, bz⟩
              have BZ := Lib.hid (bt hbj.out (bt ((Below.refl _ _).alloc (Nat.le_refl _) _) bz))
              clear bz c0 c1 c2 c3 c4 c5 c6
              go_wp2_with fail
              go_roundg gj
              case measure => omega
              case rel => exact ⟨4, by omega, by go_num, HN, BZ⟩
          · have HF := Lib.hid (FN.out hno.out)
            clear c0 c1 c2 c3 c4 c5 c6 hno
            go_wp2_with fail
            go_roundg gh
            case measure => omega
            case rel => exact ⟨k + 1, by omega, by go_num, Lib.hid (N0.out _ HF.out (ho.out.belowAll BJ.out)), Lib.hid (bt hb.out BJ.out)⟩
    · have hkz : k = xs.length := by omega
      subst hkz
      have hnl : ¬ (xs.length : Int) < (xs.length : Int) := by omega
      have HL := Lib.hid (La.chf_len xs)
      go_wp2
      try rw [Exit.noGoto_ret]
      go_ret
      exact RL.yes rfl (by have := ho.out; rw [List.take_of_length_le (by rw [HL.out]; omega), List.drop_length, List.append_nil] at this; exact this) hb.out
end Go.Proofs.YtbdhdlgenfpjgaaDoor

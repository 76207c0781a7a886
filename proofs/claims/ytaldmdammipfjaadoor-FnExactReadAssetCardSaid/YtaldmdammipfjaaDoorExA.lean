/-
  Which assets are valid, by the model and by the program. The condition: no name and no list of cells is longer than 2^20 (beyond it the laws answer at once).
-/
import Derived.Test.YtaldmdammipfjaaDoorEx
import Derived.Test.YtaldmdammipfjaaDoorAstF
import Derived.Test.YtaldmdammipfjaaDoorAstL
import Derived.Test.YtaldmdammipfjaaDoorGdV
import Derived.Test.YtaldmdammipfjaaDoorRlB
import Derived.Test.YtaldmdammipfjaaDoorRlQ
import Derived.Deep.QuietTactic
import Derived.BigQuiet
import Derived.Defers
namespace Go.Proofs.YtaldmdammipfjaaDoor
open Go.RowKit Go.Shelf Go.Deep
set_option linter.unusedVariables false
set_option maxRecDepth 100000

theorem exSz (l : List UInt8) : (⟨l.toArray⟩ : ByteArray).size = l.length := by show l.toArray.size = _; simp
theorem implNameX_at (l : List UInt8) (w : World) (h : l.length ≤ 1048576) :
    Calls Tryd.prog 91 #[.string ⟨l.toArray⟩] w fun e w' => e = .returned (.bool (nm l)) ∧ w = w' :=
  implIsName_any ⟨l.toArray⟩ w (by rw [exSz]; exact h)
theorem specNameX_at (l : List UInt8) (w : World) (h : l.length ≤ 1048576) :
    Calls Tryd.prog 86 #[.string ⟨l.toArray⟩] w fun e w' => e = .returned (.bool (nm l)) ∧ w = w' :=
  l01Name_any ⟨l.toArray⟩ w (by rw [exSz]; exact h)
set_option maxHeartbeats 3200000 in
theorem l15One_q (n : Int) (x : Ast) (b o : Nat) (u : Value) (w : World) (h : AsCells w b o x u) (hx : As.Sh1 x) (h0 : 0 ≤ n) (hn : n ≤ 1048576) :
    Calls Tryd.prog 50 #[.pointer (some ⟨b, o, none⟩), .int .i64 n] w fun e w' => e = .returned (.bool (Ex.ok1 n x)) ∧ ∃ m, w' = w.drewN m := by
  obtain ⟨ua, ucap, rfl⟩ := h.sl.form
  have N := Lib.hid (fun W => specNameX_at x.id W hx.1)
  have CR := Lib.hid (l00Rises_q w (.slice ua x.ce.length ucap) x.ce 0 (n - 1) h.sl hx.2)
  have K := Lib.hid (fun q => h.drewN q)
  have CI := Lib.hid (fun W => l00In_any x.wo 0 1000000 W)
  have hw1 : IntKind.i64.wrap (n - 1) = n - 1 := IntWalk.i64_in _ ⟨by omega, by omega⟩
  obtain ⟨c0, c1, c2, -⟩ := h
  cases hq : nm x.id with
  | false =>
    have hr : Hid (Ex.ok1 n x = false) := Lib.hid (Ex.ok1_0 hq)
    rw [hq] at N
    clear hq CR K CI hx
    go_enter Tryd.func50, Tryd.ntmps50
    go_wp2_with fail
    refine (N.out _).mono ?_
    rintro e w1 ⟨rfl, rfl⟩
    go_wp2_with fail
    go_ret
    exact ⟨ret_bool hr.out.symm, 0, rfl⟩
  | true =>
    rw [hq] at N
    by_cases hz : 0 < x.ce.length
    · have hz' : (0 : Int) < (x.ce.length : Int) := by omega
      cases hri : Rl.ri 0 (n - 1) x.ce with
      | false =>
        have hr : Hid (Ex.ok1 n x = false) := Lib.hid (Ex.ok1_2 hri)
        rw [hri] at CR
        clear hq K CI hx hri hz
        generalize x.ce.length = m at *
        go_enter Tryd.func50, Tryd.ntmps50
        go_wp2_with fail
        refine (N.out _).mono ?_
        rintro e w1 ⟨rfl, rfl⟩
        go_wp2_with fail
        refine CR.out.mono ?_
        rintro e w1 ⟨rfl, q, rfl⟩
        go_wp2_with fail
        go_ret
        exact ⟨ret_bool hr.out.symm, _, rfl⟩
      | true =>
        have hr : Hid (Ex.ok1 n x = Ar.inB 0 x.wo 1000000) := Lib.hid (Ex.ok1_l hq hz hri)
        rw [hri] at CR
        clear hq hx hri hz
        generalize x.ce.length = m at *
        generalize Ar.inB 0 x.wo 1000000 = yb at *
        go_enter Tryd.func50, Tryd.ntmps50
        go_wp2_with fail
        refine (N.out _).mono ?_
        rintro e w1 ⟨rfl, rfl⟩
        go_wp2_with fail
        refine CR.out.mono ?_
        rintro e w2 ⟨rfl, q, rfl⟩
        have d2 := (K.out q).c2
        go_wp2_with fail
        refine (CI.out _).mono ?_
        rintro e w3 ⟨rfl, rfl⟩
        go_wp2_with fail
        go_ret
        exact ⟨ret_bool hr.out.symm, _, rfl⟩
    · have hz' : ¬ (0 : Int) < (x.ce.length : Int) := by omega
      have hr : Hid (Ex.ok1 n x = false) := Lib.hid (Ex.ok1_1 hz)
      clear hq CR K CI hx hz
      generalize x.ce.length = m at *
      go_enter Tryd.func50, Tryd.ntmps50
      go_wp2_with fail
      refine (N.out _).mono ?_
      rintro e w1 ⟨rfl, rfl⟩
      go_wp2_with fail
      go_ret
      exact ⟨ret_bool hr.out.symm, 0, rfl⟩
set_option maxHeartbeats 3200000 in
theorem isWrongAst_any (n : Int) (x : Ast) (u : Value) (w : World) (hs : Sl w u x.ce) (hx : As.Sh1 x) (h0 : 0 ≤ n) (hn : n ≤ 1048576) :
    Calls Tryd.prog 52 #[.agg #[.string ⟨x.id.toArray⟩, u, .int .i64 x.wo], .int .i64 n] w fun e w' => e = .returned (.bool (!Ex.ok1 n x)) ∧ Below w.heap.size w w' := by
  obtain ⟨ua, ucap, rfl⟩ := hs.form
  have N := Lib.hid (fun W => implNameX_at x.id W hx.1)
  have HB := Lib.hid (boxAst_below w x (.slice ua x.ce.length ucap) 48)
  have CR := Lib.hid (areIndices_any (boxAst w x (.slice ua x.ce.length ucap) 48) (.slice ua x.ce.length ucap) x.ce n h0 hn (hs.below HB.out) hx.2)
  have K := Lib.hid (fun W (hb : Below (boxAst w x (.slice ua x.ce.length ucap) 48).heap.size (boxAst w x (.slice ua x.ce.length ucap) 48) W) => ((boxAst_whole w x (.slice ua x.ce.length ucap) 48).all hb).at_ 2)
  have CI := Lib.hid (fun W => within_any x.wo 0 1000000 W)
  clear hs
  cases hq : nm x.id with
  | false =>
    have hr : Hid (Ex.ok1 n x = false) := Lib.hid (Ex.ok1_0 hq)
    rw [hq] at N
    clear hq CR K CI hx
    go_enter Tryd.func52, Tryd.ntmps52
    go_wp2_with fail
    refine (N.out _).mono ?_
    rintro e w1 ⟨rfl, rfl⟩
    go_wp2_with fail
    go_ret
    exact ⟨ret_bool (by rw [hr.out]; rfl), HB.out⟩
  | true =>
    rw [hq] at N
    by_cases hz : 0 < x.ce.length
    · have hz' : ((x.ce.length : Int) == 0) = false := beq_eq_false_iff_ne.2 (by omega)
      cases hri : Rl.ri 0 (n - 1) x.ce with
      | false =>
        have hr : Hid (Ex.ok1 n x = false) := Lib.hid (Ex.ok1_2 hri)
        rw [hri] at CR
        clear hq K CI hx hri hz
        generalize x.ce.length = m at *
        go_enter Tryd.func52, Tryd.ntmps52
        go_wp2_with fail
        refine (N.out _).mono ?_
        rintro e w1 ⟨rfl, rfl⟩
        go_wp2_with fail
        refine CR.out.mono ?_
        rintro e w1 ⟨rfl, b1⟩
        have B1 := Lib.hid (bt HB.out b1)
        clear b1
        go_wp2_with fail
        go_ret
        exact ⟨ret_bool (by rw [hr.out]; rfl), B1.out⟩
      | true =>
        have hr : Hid (Ex.ok1 n x = Ar.inB 0 x.wo 1000000) := Lib.hid (Ex.ok1_l hq hz hri)
        rw [hri] at CR
        clear hq hx hri hz
        generalize x.ce.length = m at *
        generalize Ar.inB 0 x.wo 1000000 = yb at *
        go_enter Tryd.func52, Tryd.ntmps52
        go_wp2_with fail
        refine (N.out _).mono ?_
        rintro e w1 ⟨rfl, rfl⟩
        go_wp2_with fail
        refine CR.out.mono ?_
        rintro e w1 ⟨rfl, b1⟩
        have d2 := K.out _ b1
        have B1 := Lib.hid (bt HB.out b1)
        clear b1
        go_wp2_with fail
        refine (CI.out _).mono ?_
        rintro e w3 ⟨rfl, rfl⟩
        go_wp2_with fail
        go_ret
        exact ⟨ret_bool (by rw [hr.out]), B1.out⟩
    · have hz' : ((x.ce.length : Int) == 0) = true := beq_iff_eq.2 (by omega)
      have hr : Hid (Ex.ok1 n x = false) := Lib.hid (Ex.ok1_1 hz)
      clear hq CR K CI hx hz
      generalize x.ce.length = m at *
      go_enter Tryd.func52, Tryd.ntmps52
      go_wp2_with fail
      refine (N.out _).mono ?_
      rintro e w1 ⟨rfl, rfl⟩
      go_wp2_with fail
      go_ret
      exact ⟨ret_bool (by rw [hr.out]; rfl), HB.out⟩
set_option maxHeartbeats 3200000 in
theorem l15List_any (w : World) (b : Nat) (r c s : Int) (vg : Value) (zs : List Int) (hg : GC w b r c s vg) (G : Gw.Good r c s zs) (v : Value) (xs : List Ast) (hv : AsSl w v xs) (hl : xs.length ≤ 1048576) (hi : As.Sh xs) :
    Calls Tryd.prog 69 #[.pointer (some ⟨b, 0, none⟩), v] w fun e w' => e = .returned (.bool (Ex.okL zs.length xs)) ∧ Below w.heap.size w w' := by
  obtain ⟨a, cap, rfl⟩ := hv.form
  have hlen := G.len
  have hrc : wrap64 (r * c) = (zs.length : Int) := by rw [← G.n]; exact IntWalk.wrap64_in _ ⟨by omega, by omega⟩
  have HV := Lib.hid hv
  have HI := Lib.hid hi
  have HG := Lib.hid hg
  have hzl : zs.length ≤ 1048576 := by omega
  clear hv hi hg G hlen
  generalize zs.length = zn at *
  go_enter Tryd.func69, Tryd.ntmps69
  go_wp2
  go_loopw [5] (fun i wr => ∃ k : Nat, k ≤ xs.length ∧ i = .int .i64 k ∧ Hid ((xs.take k).all (Ex.ok1 zn) = true ∧ Ex.up none (xs.take k) = true) ∧ Hid (Below w.heap.size w wr)) (fun i _ => xs.length - (intOf i).toNat)
  case atStart => exact ⟨0, Nat.zero_le _, rfl, Lib.hid ⟨rfl, rfl⟩, Lib.hid (Below.refl _ _)⟩
  case round =>
    obtain ⟨k, hk, rfl, hp, hw⟩ := hrel
    have g0 := (HG.out.all hw.out).c0
    have g1 := (HG.out.all hw.out).c1
    by_cases hlt : k < xs.length
    · obtain ⟨b', off, cap1, hn, hbl, hc⟩ := (HV.out.below hw.out).known hlt
      simp only [Value.slice.injEq] at hn
      obtain ⟨rfl, -, rfl⟩ := hn
      have C := fun q => Lib.hid (l15One_q zn xs[k] b' (off + k * 3) _ (wr.drewN q) ((hc k hlt).drewN q) (HI.out _ (List.getElem_mem hlt)) (by omega) (by omega))
      cases hq : Ex.ok1 zn xs[k] with
      | true =>
        have ha := Lib.hid (Ex.all_snoc hlt hp.out.1 hq)
        rw [hq] at C
        clear hq
        rcases Nat.eq_zero_or_pos k with h0 | h0
        · subst h0
          have hu : Hid (Ex.up none (xs.take (0 + 1)) = true) := Lib.hid (Ex.up_one hlt)
          simp only [Nat.zero_mul, Nat.add_zero] at C
          clear hc hp
          go_wp2_with fail
          go_quiet ((go_at_call 50; refine (C _).out.mono fun _ _ ⟨h, m, h'⟩ => ⟨h, _, h'.trans (World.drewN_drewN ..)⟩))
          go_wp2
          exact ⟨⟨1, by omega, by go_num, Lib.hid ⟨ha.out, hu.out⟩, Lib.hid (below_drewN hw.out _)⟩, by simp only [intOf]; omega⟩
        · obtain ⟨m, rfl⟩ : ∃ m, k = m + 1 := ⟨k - 1, by omega⟩
          have c0 := (hc (m + 1) hlt).c0
          have d0 : wr.cell? ⟨b', off + m * 3, none⟩ = some (.string ⟨(xs[m]'(by omega)).id.toArray⟩) := (hc m (by omega)).c0
          clear hc
          cases ht : Op.bytesLess (xs[m]'(by omega)).id xs[m + 1].id with
          | false =>
            have hn := Lib.hid (Ex.okL_up (n := zn) (Ex.up_turn hlt ht))
            generalize (xs[m]'(by omega)).id = p at *
            generalize xs[m + 1].id = q at *
            go_wp2_with fail
            go_quiet ((go_at_call 50; refine (C _).out.mono fun _ _ ⟨h, m, h'⟩ => ⟨h, _, h'.trans (World.drewN_drewN ..)⟩))
            go_wp2
            go_ret
            exact ⟨ret_bool hn.out.symm, below_drewN hw.out _⟩
          | true =>
            have hu : Hid (Ex.up none (xs.take (m + 1 + 1)) = true) := Lib.hid (Ex.up_step hlt hp.out.2 ht)
            clear hp
            generalize (xs[m]'(by omega)).id = p at *
            generalize xs[m + 1].id = q at *
            go_wp2_with fail
            go_quiet ((go_at_call 50; refine (C _).out.mono fun _ _ ⟨h, m, h'⟩ => ⟨h, _, h'.trans (World.drewN_drewN ..)⟩))
            go_wp2
            exact ⟨⟨m + 1 + 1, by omega, by go_num, Lib.hid ⟨ha.out, hu.out⟩, Lib.hid (below_drewN hw.out _)⟩, by simp only [intOf]; omega⟩
      | false =>
        have hn := Lib.hid (Ex.okL_bad hlt hq)
        rw [hq] at C
        clear hq hc hp
        go_wp2_with fail
        go_quiet ((go_at_call 50; refine (C _).out.mono fun _ _ ⟨h, m, h'⟩ => ⟨h, _, h'.trans (World.drewN_drewN ..)⟩))
        go_wp2
        go_ret
        exact ⟨ret_bool hn.out.symm, below_drewN hw.out _⟩
    · have hkz : k = xs.length := by omega
      have hn : Hid (Ex.okL zn xs = decide (xs.length ≤ 12)) := Lib.hid (Ex.okL_in (by have := hp.out.1; rwa [hkz, List.take_length] at this) (by have := hp.out.2; rwa [hkz, List.take_length] at this))
      clear hkz g0 g1
      by_cases h16 : xs.length ≤ 12
      · have hd : Hid (Ex.okL zn xs = true) := Lib.hid (by rw [hn.out]; exact decide_eq_true h16)
        go_wp2
        go_ret
        exact ⟨ret_bool (by rw [hd.out]; exact decide_eq_true (by omega)), hw.out⟩
      · have hd : Hid (Ex.okL zn xs = false) := Lib.hid (by rw [hn.out]; exact decide_eq_false h16)
        go_wp2
        go_ret
        exact ⟨ret_bool (by rw [hd.out]; exact decide_eq_false (by omega)), hw.out⟩
end Go.Proofs.YtaldmdammipfjaaDoor

/-
  When stands are valid, by the model and by the program. The condition: no name is longer than 2^20 (beyond it the laws answer at once).
-/
import Derived.Test.YtaldmdammipfjaaStdF
import Derived.Test.YtaldmdammipfjaaFo
import Derived.Test.YtaldmdammipfjaaCd
import Derived.Test.YtaldmdammipfjaaUnits
import Derived.Deep.QuietTactic
import Derived.BigQuiet
import Derived.Defers
namespace Go.Proofs.Ytaldmdammipfjaa
open Go.RowKit Go.Shelf
set_option linter.unusedVariables false
set_option maxRecDepth 100000

theorem sz_list (l : List UInt8) : (⟨l.toArray⟩ : ByteArray).size = l.length := by show l.toArray.size = _; simp
theorem implName_at (l : List UInt8) (w : World) (h : l.length ≤ 1048576) :
    Calls Try.prog 77 #[.string ⟨l.toArray⟩] w fun e w' => e = .returned (.bool (nm l)) ∧ w = w' :=
  implIsName_any ⟨l.toArray⟩ w (by rw [sz_list]; exact h)
theorem specName_at (l : List UInt8) (w : World) (h : l.length ≤ 1048576) :
    Calls Try.prog 100 #[.string ⟨l.toArray⟩] w fun e w' => e = .returned (.bool (nm l)) ∧ w = w' :=
  l01Name_any ⟨l.toArray⟩ w (by rw [sz_list]; exact h)
/-- no name is long -/
abbrev Ids (xs : List Std) : Prop := Sn.Sh xs
set_option maxHeartbeats 1600000 in
theorem l10One_any (x : Std) (b o : Nat) (w : World) (h : SnCells w b o x) (hx : x.id.length ≤ 1048576) :
    Calls Try.prog 91 #[.pointer (some ⟨b, o, none⟩)] w fun e w' => e = .returned (.bool (Fo.ok1 x)) ∧ w = w' := by
  obtain ⟨c0, c1, c2, c3, c4⟩ := h
  have N := Lib.hid (fun W => specName_at x.id W hx)
  clear hx
  go_enter Try.func91, Try.ntmps91
  go_wp2_with (first | (go_at_call 100; refine (N.out _).mono ?_; rintro e w' ⟨rfl, rfl⟩) | (go_at_call 75; refine (l00In_any _ _ _ _).mono ?_; rintro e w' ⟨rfl, rfl⟩))
  all_goals
    go_ret
    refine ⟨ret_bool ?_, rfl⟩
    first
      | exact (Fo.ok1_0 (Fo.nt (by assumption))).symm
      | exact (Fo.ok1_1 (Fo.nt (by assumption))).symm
      | exact (Fo.ok1_2 (Fo.nt (by assumption))).symm
      | exact (Fo.ok1_3 (Fo.nt (by assumption))).symm
      | exact (Fo.ok1_4 (Fo.nt (by assumption))).symm
      | exact (Fo.ok1_l (by assumption) (by assumption) (by assumption) (by assumption)).symm
      | exact (Fo.ok1_t (by assumption) (by assumption) (by assumption) (by assumption) (by assumption)).symm
set_option maxHeartbeats 800000 in
theorem isShare_any2 (x : Int) (w : World) :
    Calls Try.prog 96 #[.int .i64 x] w fun e w' => e = .returned (.bool (Ar.inB 0 x 1000)) ∧ w = w' := by
  go_enter Try.func96, Try.ntmps96
  go_wp2_with (go_at_call 79; refine (within_any _ _ _ _).mono ?_; rintro e w' ⟨rfl, rfl⟩)
  go_ret
  exact ⟨rfl, rfl⟩
set_option maxHeartbeats 1600000 in
theorem isWrongStd_any (x : Std) (w : World) (hx : x.id.length ≤ 1048576) :
    Calls Try.prog 115 #[.agg #[.string ⟨x.id.toArray⟩, .int .i64 x.tr, .int .i64 x.he, .int .i64 x.co, .int .i64 x.ga]] w fun e w' => e = .returned (.bool (!Fo.ok1 x)) ∧ Below w.heap.size w w' := by
  have N := Lib.hid (fun W => implName_at x.id W hx)
  clear hx
  go_enter Try.func115, Try.ntmps115
  go_wp2_with (first | (go_at_call 77; refine (N.out _).mono ?_; rintro e w' ⟨rfl, rfl⟩) | (go_at_call 96; refine (isShare_any2 _ _).mono ?_; rintro e w' ⟨rfl, rfl⟩) | (go_at_call 79; refine (within_any _ _ _ _).mono ?_; rintro e w' ⟨rfl, rfl⟩))
  all_goals
    go_ret
    refine ⟨ret_bool ?_, (Below.refl _ _).alloc (Nat.le_refl _) _⟩
    first
      | (rw [Fo.ok1_0 (x := x) (Fo.nt (by assumption))]; rfl)
      | (rw [Fo.ok1_1 (x := x) (Fo.nt (by assumption))]; rfl)
      | (rw [Fo.ok1_2 (x := x) (Fo.nt (by assumption))]; rfl)
      | (rw [Fo.ok1_3 (x := x) (Fo.nt (by assumption))]; rfl)
      | (rw [Fo.ok1_4 (x := x) (Fo.nt (by assumption))]; rfl)
      | rw [Fo.ok1_l (x := x) (by assumption) (by assumption) (by assumption) (by assumption)]
      | rw [Fo.ok1_t (x := x) (by assumption) (by assumption) (by assumption) (by assumption) (by assumption)]
set_option maxHeartbeats 1600000 in
theorem l10Ok_any (w : World) (v : Value) (xs : List Std) (hv : SnSl w v xs) (hl : xs.length ≤ 1048576) (hi : Ids xs) :
    Calls Try.prog 66 #[v] w fun e w' => e = .returned (.bool (Fo.okS xs)) ∧ Below w.heap.size w w' := by
  obtain ⟨a, cap, rfl⟩ := hv.form
  have HV := Lib.hid hv
  have HI := Lib.hid hi
  clear hv hi
  go_enter Try.func66, Try.ntmps66
  go_wp2
  go_loopw [3] (fun i wr => ∃ k : Nat, k ≤ xs.length ∧ i = .int .i64 k ∧ Hid ((xs.take k).all Fo.ok1 = true ∧ Fo.up none (xs.take k) = true) ∧ Hid (Below w.heap.size w wr)) (fun i _ => xs.length - (intOf i).toNat)
  case atStart => exact ⟨0, Nat.zero_le _, rfl, Lib.hid ⟨rfl, rfl⟩, Lib.hid (Below.refl _ _)⟩
  case round =>
    obtain ⟨k, hk, rfl, hp, hw⟩ := hrel
    by_cases hlt : k < xs.length
    · obtain ⟨b, off, cap1, hn, hbl, hc⟩ := (HV.out.below hw.out).at_ hlt
      simp only [Value.slice.injEq] at hn
      obtain ⟨rfl, -, rfl⟩ := hn
      have C := fun n => Lib.hid (l10One_any xs[k] b (off + k * 5) (wr.drewN n) ((hc k hlt).drewN n) (HI.out _ (List.getElem_mem hlt)))
      cases hq : Fo.ok1 xs[k] with
      | true =>
        have ha := Lib.hid (Fo.all_snoc hlt hp.out.1 hq)
        rw [hq] at C
        clear hq
        rcases Nat.eq_zero_or_pos k with h0 | h0
        · subst h0
          have hu : Hid (Fo.up none (xs.take (0 + 1)) = true) := Lib.hid (Fo.up_one hlt)
          simp only [Nat.zero_mul, Nat.add_zero] at C
          clear hc hp
          go_wp2_with fail
          go_quiet ((go_at_call 91; exact Calls.quiet_of_same ((C _).out.mono fun _ _ ⟨h, h'⟩ => ⟨h, h'.symm⟩)))
          go_wp2
          exact ⟨⟨1, by omega, by go_num, Lib.hid ⟨ha.out, hu.out⟩, Lib.hid (below_drewN hw.out _)⟩, by simp only [intOf]; omega⟩
        · obtain ⟨m, rfl⟩ : ∃ m, k = m + 1 := ⟨k - 1, by omega⟩
          have c0 := (hc (m + 1) hlt).c0
          have d0 : wr.cell? ⟨b, off + m * 5, none⟩ = some (.string ⟨(xs[m]'(by omega)).id.toArray⟩) := (hc m (by omega)).c0
          clear hc
          cases ht : Op.bytesLess (xs[m]'(by omega)).id xs[m + 1].id with
          | false =>
            have hn := Lib.hid (Fo.okS_up (Fo.up_turn hlt ht))
            generalize (xs[m]'(by omega)).id = p at *
            generalize xs[m + 1].id = q at *
            go_wp2_with fail
            go_quiet ((go_at_call 91; exact Calls.quiet_of_same ((C _).out.mono fun _ _ ⟨h, h'⟩ => ⟨h, h'.symm⟩)))
            go_wp2
            go_ret
            exact ⟨ret_bool hn.out.symm, below_drewN hw.out _⟩
          | true =>
            have hu : Hid (Fo.up none (xs.take (m + 1 + 1)) = true) := Lib.hid (Fo.up_step hlt hp.out.2 ht)
            clear hp
            generalize (xs[m]'(by omega)).id = p at *
            generalize xs[m + 1].id = q at *
            go_wp2_with fail
            go_quiet ((go_at_call 91; exact Calls.quiet_of_same ((C _).out.mono fun _ _ ⟨h, h'⟩ => ⟨h, h'.symm⟩)))
            go_wp2
            exact ⟨⟨m + 1 + 1, by omega, by go_num, Lib.hid ⟨ha.out, hu.out⟩, Lib.hid (below_drewN hw.out _)⟩, by simp only [intOf]; omega⟩
      | false =>
        have hn := Lib.hid (Fo.okS_bad hlt hq)
        rw [hq] at C
        clear hq hc hp
        go_wp2_with fail
        go_quiet ((go_at_call 91; exact Calls.quiet_of_same ((C _).out.mono fun _ _ ⟨h, h'⟩ => ⟨h, h'.symm⟩)))
        go_wp2
        go_ret
        exact ⟨ret_bool hn.out.symm, below_drewN hw.out _⟩
    · have hkz : k = xs.length := by omega
      have hn : Hid (Fo.okS xs = decide (xs.length ≤ 16)) := Lib.hid (Fo.okS_in (by have := hp.out.1; rwa [hkz, List.take_length] at this) (by have := hp.out.2; rwa [hkz, List.take_length] at this))
      clear hkz
      by_cases h16 : xs.length ≤ 16
      · have hd : Hid (Fo.okS xs = true) := Lib.hid (by rw [hn.out]; exact decide_eq_true h16)
        go_wp2
        go_ret
        exact ⟨ret_bool (by rw [hd.out]; exact decide_eq_true (by omega)), hw.out⟩
      · have hd : Hid (Fo.okS xs = false) := Lib.hid (by rw [hn.out]; exact decide_eq_false h16)
        go_wp2
        go_ret
        exact ⟨ret_bool (by rw [hd.out]; exact decide_eq_false (by omega)), hw.out⟩
/-! ### the program -/
theorem latS_keep (g : Nat) (y x : List UInt8) (ex : Bool) (u : FrameMode) (w : World) (h : Whole w g 117 #[.string ⟨y.toArray⟩, .bool ex]) :
    CallsD Try.prog 109 #[.pointer (some ⟨g, 0, none⟩), .string ⟨x.toArray⟩] u w fun e u' w' => u' = u ∧ (e = .returned (.tuple #[]) ∧ Whole w' g 117 #[.string ⟨x.toArray⟩, .bool true] ∧ w.grownBy w' (some g)) := by
  have c0 := h.at_ 0
  have c1 := h.at_ 1
  have f0 := h.free 0
  have f1 := h.free 1
  have H := Lib.hid ((h.put 0 (.string ⟨x.toArray⟩)).put 1 (.bool true))
  have G := Lib.hid (only_setCell (p := ⟨g, 1, none⟩) (only_setCell (p := ⟨g, 0, none⟩) (World.grownBy.refl w (some g)) rfl (.string ⟨x.toArray⟩)) rfl (.bool true))
  simp at c0 c1
  clear h
  go_enter_d Try.func109, Try.ntmps109
  go_wp2
  go_end0
  exact ⟨rfl, by simpa using H.out, G.out⟩
set_option maxHeartbeats 800000 in
theorem latS_pass (g : Nat) (y x : List UInt8) (ex : Bool) (w : World) (h : Whole w g 117 #[.string ⟨y.toArray⟩, .bool ex]) :
    Calls Try.prog 84 #[.pointer (some ⟨g, 0, none⟩), .string ⟨x.toArray⟩] w fun e w' => e = .returned (.tuple #[.string ⟨y.toArray⟩, .bool ex]) ∧ Whole w' g 117 #[.string ⟨x.toArray⟩, .bool true] ∧ w.grownBy w' (some g) := by
  have c0 := h.at_ 0
  have c1 := h.at_ 1
  have H := Lib.hid h
  simp at c0 c1
  clear h
  go_enter_defers Try.func84, Try.ntmps84
  go_wp2
  go_quiet (fail)
  go_wp2
  refine leaves_cons (f := 109) (args := #[.pointer (some ⟨g, 0, none⟩), .string ⟨x.toArray⟩]) (by simp) (by simp [go_sem]) ?_
  refine (latS_keep g y x ex .returning _ (H.out.drewN _)).mono ?_
  rintro e u' w'' ⟨rfl, rfl, h1, h2⟩
  exact ⟨_, results_tmp2 rfl _ _ _, rfl, h1, ⟨h2.os, h2.tape, h2.output, h2.size, h2.block⟩⟩
theorem idLit_any (x : Std) (w : World) :
    Calls Try.prog 117 #[.agg #[.string ⟨x.id.toArray⟩, .int .i64 x.tr, .int .i64 x.he, .int .i64 x.co, .int .i64 x.ga]] w fun e w' => e = .returned (.string ⟨x.id.toArray⟩) ∧ Below w.heap.size w w' := by
  go_enter Try.func117, Try.ntmps117
  go_wp2
  go_ret
  exact ⟨rfl, (Below.refl _ _).alloc (Nat.le_refl _) _⟩
set_option maxHeartbeats 1600000 in
theorem increasingStd_any (w : World) (v : Value) (xs : List Std) (hv : SnSl w v xs) (hl : xs.length ≤ 1048576) :
    Calls Try.prog 116 #[v, .func (.func 117) #[] #[]] w fun e w' => e = .returned (.bool (Fo.up none xs)) ∧ Below w.heap.size w w' := by
  have eg := enters_of Try.func117 (by kernel_rfl) rfl
  obtain ⟨a, cap, rfl⟩ := hv.form
  have HV := Lib.hid hv
  have W0 := Lib.hid (Whole.new w 117 #[.string ⟨([] : List UInt8).toArray⟩, .bool false])
  have B0 := Lib.hid ((Below.refl w.heap.size w).alloc (Nat.le_refl _) (.cells #[.string ⟨([] : List UInt8).toArray⟩, .bool false] 117))
  clear hv
  go_enter Try.func116, Try.ntmps116
  go_wp2
  go_loopw [13] (fun i wr => ∃ (k : Nat) (y : List UInt8) (ex : Bool), k ≤ xs.length ∧ i = .int .i64 k ∧ Hid (Whole wr w.heap.size 117 #[.string ⟨y.toArray⟩, .bool ex]) ∧ Hid (Below w.heap.size w wr) ∧ Hid (Fo.up none (xs.take k) = true) ∧ Hid ((ex = false ∧ k = 0) ∨ (ex = true ∧ 0 < k ∧ some y = Fo.la none (xs.take k)))) (fun i _ => xs.length - (intOf i).toNat)
  case atStart => exact ⟨0, [], false, Nat.zero_le _, rfl, W0, B0, Lib.hid rfl, Lib.hid (Or.inl ⟨rfl, rfl⟩)⟩
  case round =>
    obtain ⟨k, y, ex, hk, rfl, hW, hb, hu, hx⟩ := hrel
    by_cases hlt : k < xs.length
    · have hltz : (k : Int) < (xs.length : Int) := by omega
      obtain ⟨b, off, cap1, hn, hbl, hcc⟩ := (HV.out.below hb.out).at_ hlt
      simp only [Value.slice.injEq] at hn
      obtain ⟨rfl, -, rfl⟩ := hn
      obtain ⟨c0, c1, c2, c3, c4⟩ := hcc k hlt
      have C := fun W => Lib.hid (idLit_any xs[k] W)
      clear hcc
      go_wp2_with fail
      refine (C _).out.mono ?_
      rintro e w1 ⟨rfl, b1⟩
      have hW1 := Lib.hid ((hW.out.alloc _).all b1)
      have hb1 := Lib.hid ((hb.out.alloc hb.out.size _).trans (b1.mono (by have := hb.out.size; simp; omega)))
      clear b1 c0 c1 c2 c3 c4
      go_wp2_with fail
      refine (latS_pass _ _ _ _ _ hW1.out).mono ?_
      rintro e w2 ⟨rfl, h2, g2⟩
      have hW2 := Lib.hid h2
      have hb2 := Lib.hid (below_only hb1.out g2 (Nat.le_refl _) hb1.out.size)
      clear h2 g2 hW1 hb1 hW hb
      rcases hx.out with ⟨rfl, rfl⟩ | ⟨rfl, h0, hy⟩
      · have hu2 : Hid (Fo.up none (xs.take (0 + 1)) = true) := Lib.hid (Fo.up_one hlt)
        have hl2 : Hid (some xs[0].id = Fo.la none (xs.take (0 + 1))) := Lib.hid (Fo.la_take none hlt).symm
        clear hu hx
        go_wp2_with fail
        exact ⟨⟨1, xs[0].id, true, by omega, by go_num, hW2, hb2, hu2, Lib.hid (Or.inr ⟨rfl, by omega, hl2.out⟩)⟩, by simp only [intOf]; omega⟩
      · have hl2 : Hid (some xs[k].id = Fo.la none (xs.take (k + 1))) := Lib.hid (Fo.la_take none hlt).symm
        have HU : Hid (Fo.up none (xs.take (k + 1)) = Op.bytesLess y xs[k].id) := Lib.hid (by rw [Fo.up_snoc hlt, hu.out, ← hy]; rfl)
        have HT := Fo.bl_total xs[k].id y
        clear hy hx h0
        cases ht : Op.bytesLess y xs[k].id with
        | false =>
          have hn : Hid (Fo.up none xs = false) := Lib.hid (Fo.up_no (by rw [HU.out]; exact ht))
          rw [ht] at HT
          clear HU hl2
          generalize xs[k].id = q at *
          go_wp2_with fail
          go_ret
          exact ⟨ret_bool hn.out.symm, hb2.out⟩
        | true =>
          have hu2 : Hid (Fo.up none (xs.take (k + 1)) = true) := Lib.hid (by rw [HU.out]; exact ht)
          rw [ht] at HT
          clear HU
          generalize xs[k].id = q at *
          go_wp2_with fail
          exact ⟨⟨k + 1, q, true, by omega, by go_num, hW2, hb2, hu2, Lib.hid (Or.inr ⟨rfl, by omega, hl2.out⟩)⟩, by simp only [intOf]; omega⟩
    · have hltz : ¬ (k : Int) < (xs.length : Int) := by omega
      have hkz : k = xs.length := by omega
      have hn : Hid (Fo.up none xs = true) := Lib.hid (by have := hu.out; rw [hkz, List.take_length] at this; exact this)
      clear hkz
      go_wp2
      go_ret
      exact ⟨ret_bool hn.out.symm, hb.out⟩
set_option maxHeartbeats 800000 in
theorem implValidStands_any (w : World) (v : Value) (xs : List Std) (hv : SnSl w v xs) (hl : xs.length ≤ 1048576) (hi : Ids xs) :
    Calls Try.prog 95 #[v] w fun e w' => e = .returned (.bool (Fo.okS xs)) ∧ Below w.heap.size w w' := by
  obtain ⟨a, cap, rfl⟩ := hv.form
  have C := Lib.hid (containsFuncStd_any 115 #[] (enters_of Try.func115 (by kernel_rfl) rfl) (fun x => !Fo.ok1 x) w _ xs hl hv (fun x hx W hW => (isWrongStd_any x W (hi x hx)).mono fun _ _ ⟨h, b⟩ => ⟨h, bt hW b⟩))
  have HV := Lib.hid hv
  clear hi
  by_cases h16 : xs.length ≤ 16
  · have h : ¬ 16 < xs.length := by omega
    clear hv
    cases hq : xs.all Fo.ok1 with
    | true =>
      have hn : Hid ((xs.any fun x => !Fo.ok1 x) = false) := Lib.hid (by rw [Fo.not_any, hq]; rfl)
      have hr : Hid (Fo.okS xs = Fo.up none xs) := Lib.hid (Fo.okS_eq hq h16)
      rw [hn.out] at C
      clear hq
      go_enter Try.func95, Try.ntmps95
      go_wp2_with fail
      refine C.out.mono ?_
      rintro e w1 ⟨rfl, b1⟩
      have B1 := Lib.hid b1
      clear b1
      go_wp2_with fail
      refine (increasingStd_any w1 _ xs (HV.out.below B1.out) hl).mono ?_
      rintro e w2 ⟨rfl, b2⟩
      have B2 := Lib.hid (bt B1.out b2)
      clear b2
      go_wp2_with fail
      go_ret
      exact ⟨ret_bool hr.out.symm, B2.out⟩
    | false =>
      have hn : Hid ((xs.any fun x => !Fo.ok1 x) = true) := Lib.hid (by rw [Fo.not_any, hq]; rfl)
      have hr : Hid (Fo.okS xs = false) := Lib.hid (Fo.okS_not hq)
      rw [hn.out] at C
      clear hq
      go_enter Try.func95, Try.ntmps95
      go_wp2_with fail
      refine C.out.mono ?_
      rintro e w1 ⟨rfl, b1⟩
      have B1 := Lib.hid b1
      clear b1
      go_wp2_with fail
      go_ret
      exact ⟨ret_bool hr.out.symm, B1.out⟩
  · have h : 16 < xs.length := by omega
    have hr : Hid (Fo.okS xs = false) := Lib.hid (Fo.okS_long h16)
    clear hv h16
    go_enter Try.func95, Try.ntmps95
    go_wp2_with fail
    go_ret
    exact ⟨ret_bool hr.out.symm, Below.refl _ _⟩
end Go.Proofs.Ytaldmdammipfjaa

/-
  The stand that protects least, by the model and by the program; slices.Min and slices.Index at int64. The condition: no name is longer than 2^20. (Written by wip/gen/genfoh.py.)
-/
import Derived.Test.YtaldmdammipfjaaFoD
namespace Go.Proofs.Ytaldmdammipfjaa
open Go.RowKit Go.Shelf
set_option linter.unusedVariables false
set_option maxRecDepth 100000

/-! ### the first of the least ones -/
/-- of f 0 .. f (k - 1), f b is the first of the least ones -/
structure Wp (f : Nat → Int) (k b : Nat) : Prop where
  lt : b < k
  le : ∀ j, j < k → f b ≤ f j
  first : ∀ j, j < b → f b < f j
theorem Wp.one (f : Nat → Int) : Wp f 1 0 := ⟨by omega, fun j h => by have : j = 0 := by omega
                                                                      subst this; exact Int.le_refl _, fun j h => by omega⟩
theorem Wp.keep {f : Nat → Int} {k b : Nat} (h : Wp f k b) (hn : ¬ f k < f b) : Wp f (k + 1) b :=
  ⟨by have := h.lt; omega, fun j hj => by
    by_cases e : j = k
    · rw [e]; omega
    · exact h.le j (by omega), h.first⟩
theorem Wp.new {f : Nat → Int} {k b : Nat} (h : Wp f k b) (hn : f k < f b) : Wp f (k + 1) k :=
  ⟨by omega, fun j hj => by
    by_cases e : j = k
    · rw [e]; exact Int.le_refl _
    · have := h.le j (by omega); omega, fun j hj => by have := h.le j (by omega); omega⟩
theorem Wp.uniq {f : Nat → Int} {k a b : Nat} (h : Wp f k a) (g : Wp f k b) : a = b := by
  rcases Nat.lt_trichotomy a b with h1 | h1 | h1
  · have := g.first a h1; have := h.le b g.lt; omega
  · exact h1
  · have := h.first b h1; have := g.le a h.lt; omega
theorem Wp.ex (f : Nat → Int) : ∀ n, 0 < n → ∃ b, Wp f n b
  | 0, h => by omega
  | 1, _ => ⟨0, Wp.one f⟩
  | n + 2, _ => by
    obtain ⟨b, hb⟩ := Wp.ex f (n + 1) (by omega)
    by_cases h : f (n + 1) < f b
    · exact ⟨_, hb.new h⟩
    · exact ⟨_, hb.keep h⟩
noncomputable def w3 (f : Nat → Int) (n : Nat) : Nat := open Classical in if h : ∃ b, Wp f n b then h.choose else 0
theorem w3_of {f : Nat → Int} {n b : Nat} (h : Wp f n b) : w3 f n = b := by
  have e : ∃ b, Wp f n b := ⟨b, h⟩
  unfold w3
  rw [dif_pos e]
  exact e.choose_spec.uniq h
namespace Fo
noncomputable def weI (xs : List Std) (s : Int) : Int := Cd.vl (okS xs) (Ar.inB 0 s 2000) (if xs.length = 0 then 0 else (w3 (prAt xs s) xs.length : Int))
noncomputable def weM (xs : List Std) (s : Int) : Int := Cd.vl (okS xs) (Ar.inB 0 s 2000) (if xs.length = 0 then 0 else prAt xs s (w3 (prAt xs s) xs.length))
def weC (xs : List Std) (s : Int) : Int := Cd.cd (okS xs) (Ar.inB 0 s 2000) (if xs.length = 0 then 3 else 0)
/-- how much each protects -/
def prs (xs : List Std) (s : Int) : List Int := xs.map fun x => pr x s
theorem prs_length (xs : List Std) (s : Int) : (prs xs s).length = xs.length := by unfold prs; simp
theorem prs_at {xs : List Std} {s : Int} {k : Nat} (h : k < (prs xs s).length) : (prs xs s)[k] = prAt xs s k := by
  have h' : k < xs.length := by rw [prs_length] at h; exact h
  rw [prAt_of h']
  exact List.getElem_map (fun x => pr x s)
theorem prs_snoc {xs : List Std} {s : Int} {k : Nat} (h : k < xs.length) : prs (xs.take (k + 1)) s = prs (xs.take k) s ++ [prAt xs s k] := by
  unfold prs
  rw [List.take_succ_eq_append_getElem h, List.map_append, prAt_of h]; rfl
end Fo
set_option maxHeartbeats 1600000 in
theorem minS_any (f : Nat → Int) (b : Nat) (w : World) (v : Value) (zs : List Int) (hz : ∀ k (h : k < zs.length), zs[k] = f k) (hW : Wp f zs.length b) (hv : Sl w v zs) (hl : zs.length ≤ 1048576) :
    Calls Try.prog 98 #[v] w fun e w' => e = .returned (.int .i64 (f b)) ∧ Below w.heap.size w w' := by
  obtain ⟨a, cap, rfl⟩ := hv.form
  have hn : 1 ≤ zs.length := by have := hW.lt; omega
  have hn' : ¬ ((zs.length : Int) < 1) := by omega
  have HV := Lib.hid hv
  have HZ := Lib.hid hz
  have HW := Lib.hid hW
  obtain ⟨b0, off, cap1, hn1, hbl, hcc⟩ : ∃ b0 off cap1, Value.slice a zs.length cap = .slice (some ⟨b0, off, none⟩) zs.length cap1 ∧ b0 < w.heap.size ∧ ∀ k, k < zs.length → w.cell? ⟨b0, off + k, none⟩ = some (.int .i64 (f k)) := by
    rcases hv with ⟨h0, _⟩ | ⟨b0, off, cap1, h1, h2, h3⟩
    · rw [h0] at hn; simp at hn
    · exact ⟨b0, off, cap1, h1, h2, fun k h => h3 k _ (by rw [List.getElem?_eq_getElem h, hz k h])⟩
  simp only [Value.slice.injEq] at hn1
  obtain ⟨rfl, -, rfl⟩ := hn1
  have c0 : w.cell? ⟨b0, off, none⟩ = some (.int .i64 (f 0)) := hcc 0 (by omega)
  have HC := Lib.hid hcc
  have h0 : 0 < zs.length := by omega
  clear hv hz hW hcc
  go_enter Try.func98, Try.ntmps98
  go_wp2
  go_loopw [3, 4] (fun m i wr => ∃ (k c : Nat) (z : Int), 1 ≤ k ∧ k ≤ zs.length ∧ i = .int .i64 k ∧ m = .int .i64 z ∧ Hid (z = f c ∧ Wp f k c) ∧ ∃ q, wr = w.drewN q) (fun _ i _ => zs.length - (intOf i).toNat)
  case atStart => exact ⟨1, 0, f 0, by omega, by omega, rfl, rfl, Lib.hid ⟨rfl, Wp.one f⟩, 0, rfl⟩
  case round =>
    obtain ⟨k, c, z, hk1, hk, rfl, rfl, hp, q, rfl⟩ := hrel
    by_cases hlt : k < zs.length
    · have ck := HC.out k hlt
      obtain ⟨y, hy⟩ : ∃ y, f k = y := ⟨_, rfl⟩
      rw [hy] at ck
      by_cases ht : y < z
      · have HN : Hid (y = f k ∧ Wp f (k + 1) k) := Lib.hid ⟨hy.symm, hp.out.2.new (by rw [← hp.out.1, hy]; exact ht)⟩
        clear hp hy
        go_wp2
        all_goals first
          | exact ⟨⟨k + 1, k, _, by omega, by omega, by go_num, rfl, HN, _, rfl⟩, by simp only [intOf]; omega⟩
          | (exfalso; omega)
      · have HN : Hid (z = f c ∧ Wp f (k + 1) c) := Lib.hid ⟨hp.out.1, hp.out.2.keep (by rw [← hp.out.1, hy]; exact ht)⟩
        clear hp hy
        go_wp2
        all_goals first
          | exact ⟨⟨k + 1, c, _, by omega, by omega, by go_num, rfl, HN, _, rfl⟩, by simp only [intOf]; omega⟩
          | (exfalso; omega)
    · have hkn : k = zs.length := by omega
      have HR : Hid (z = f b) := Lib.hid (by
        have e : c = b := Wp.uniq (f := f) (k := zs.length) (by rw [← hkn]; exact hp.out.2) HW.out
        rw [hp.out.1, e])
      clear hkn hp
      go_wp2
      go_ret
      exact ⟨ret_int HR.out, below_drewW _ _⟩
set_option maxHeartbeats 1600000 in
theorem indexS_any (f : Nat → Int) (b : Nat) (z : Int) (w : World) (v : Value) (zs : List Int) (hz : ∀ k (h : k < zs.length), zs[k] = f k) (hb : b < zs.length) (hzb : z = f b) (hfi : ∀ j, j < b → f j ≠ z) (hv : Sl w v zs) (hl : zs.length ≤ 1048576) :
    Calls Try.prog 99 #[v, .int .i64 z] w fun e w' => e = .returned (.int .i64 (b : Int)) ∧ Below w.heap.size w w' := by
  obtain ⟨a, cap, rfl⟩ := hv.form
  obtain ⟨b0, off, cap1, hn1, hbl, hcc⟩ : ∃ b0 off cap1, Value.slice a zs.length cap = .slice (some ⟨b0, off, none⟩) zs.length cap1 ∧ b0 < w.heap.size ∧ ∀ k, k < zs.length → w.cell? ⟨b0, off + k, none⟩ = some (.int .i64 (f k)) := by
    rcases hv with ⟨h0, _⟩ | ⟨b0, off, cap1, h1, h2, h3⟩
    · rw [h0] at hb; simp at hb
    · exact ⟨b0, off, cap1, h1, h2, fun k h => h3 k _ (by rw [List.getElem?_eq_getElem h, hz k h])⟩
  simp only [Value.slice.injEq] at hn1
  obtain ⟨rfl, -, rfl⟩ := hn1
  have HC := Lib.hid hcc
  have HF := Lib.hid hfi
  have HB := Lib.hid hzb
  clear hv hz hcc hfi hzb
  go_enter Try.func99, Try.ntmps99
  go_wp2
  go_loopw [8] (fun i wr => ∃ k : Nat, k ≤ b ∧ i = .int .i64 k ∧ ∃ q, wr = w.drewN q) (fun i _ => zs.length - (intOf i).toNat)
  case atStart => exact ⟨0, by omega, rfl, 0, rfl⟩
  case round =>
    obtain ⟨k, hk, rfl, q, rfl⟩ := hrel
    have hlt : (k : Int) < (zs.length : Int) := by omega
    have ck := HC.out k (by omega)
    by_cases hkb : k = b
    · subst hkb
      have e : (z == f k) = true := by rw [← HB.out]; simp
      generalize f k = y at *
      go_wp2
      go_ret
      exact ⟨rfl, below_drewW _ _⟩
    · have e : (z == f k) = false := by rw [beq_eq_false_iff_ne]; exact fun h => HF.out k (by omega) h.symm
      generalize f k = y at *
      go_wp2
      exact ⟨⟨k + 1, by omega, by go_num, _, rfl⟩, by simp only [intOf]; omega⟩
set_option maxHeartbeats 1600000 in
theorem firstLeastS_any (f : Nat → Int) (b : Nat) (w : World) (v : Value) (zs : List Int) (hz : ∀ k (h : k < zs.length), zs[k] = f k) (hW : Wp f zs.length b) (hv : Sl w v zs) (hl : zs.length ≤ 1048576) :
    Calls Try.prog 73 #[v] w fun e w' => e = .returned (.tuple #[.int .i64 (b : Int), .int .i64 (f b)]) ∧ Below w.heap.size w w' := by
  have M := Lib.hid (minS_any f b w v zs hz hW hv hl)
  have X := Lib.hid (fun W (hb : Below w.heap.size w W) => indexS_any f b (f b) W v zs hz hW.lt rfl (fun j hj => by have := hW.first j hj; omega) (hv.below hb) hl)
  clear hz hW hv
  generalize f b = y at *
  go_enter Try.func73, Try.ntmps73
  go_wp2_with fail
  refine M.out.mono ?_
  rintro e w1 ⟨rfl, b1⟩
  have B1 := Lib.hid b1
  clear b1
  go_wp2_with fail
  refine (X.out _ B1.out).mono ?_
  rintro e w2 ⟨rfl, b2⟩
  have B2 := Lib.hid (bt B1.out b2)
  clear b2
  go_wp2_with fail
  go_ret2
  exact ⟨rfl, B2.out⟩
/-- how a call ends that answers an index, a number and a code -/
def RWe (w : World) (a b c : Int) (e : Ending) (w' : World) : Prop := e = .returned (.tuple #[.int .i64 a, .int .i64 b, .int .i64 c]) ∧ Below w.heap.size w w'
theorem RWe.mk' {w w' : World} {a b c a' b' c' : Int} (h1 : a' = a) (h2 : b' = b) (h3 : c' = c) (hb : Below w.heap.size w w') : RWe w a' b' c' (.returned (.tuple #[.int .i64 a, .int .i64 b, .int .i64 c])) w' := by
  subst h1 h2 h3; exact ⟨rfl, hb⟩
set_option maxHeartbeats 3200000 in
theorem specWeakestStand_r (w : World) (v : Value) (xs : List Std) (s : Int) (hv : SnSl w v xs) (hl : xs.length ≤ 1048576) (hi : Ids xs) :
    Calls Try.prog 30 #[v, .int .i64 s] w (RWe w (Fo.weI xs s) (Fo.weM xs s) (Fo.weC xs s)) := by
  have C := Lib.hid (l10Ok_any w v xs hv hl hi)
  have C1 := fun W => Lib.hid (l10Snow_any s W)
  obtain ⟨a, cap, rfl⟩ := hv.form
  have HV := Lib.hid hv
  clear hv hi
  unfold Fo.weI Fo.weM Fo.weC
  cases hq : Fo.okS xs with
  | false =>
    rw [hq] at C
    rw [Cd.vl_f, Cd.vl_f, Cd.cd_f]
    clear hq
    go_enter Try.func30, Try.ntmps30
    go_wp2_with fail
    refine C.out.mono ?_
    rintro e w1 ⟨rfl, b1⟩
    have B1 := Lib.hid b1
    clear b1
    go_wp2_with fail
    go_ret3
    exact RWe.mk' rfl rfl rfl B1.out
  | true =>
    rw [hq] at C
    have HF := Lib.hid (Fo.okS_all hq).1
    clear hq
    cases hs : Ar.inB 0 s 2000 with
    | false =>
      rw [Cd.vl_tf, Cd.vl_tf, Cd.cd_tf]
      rw [hs] at C1
      clear hs
      go_enter Try.func30, Try.ntmps30
      go_wp2_with fail
      refine C.out.mono ?_
      rintro e w1 ⟨rfl, b1⟩
      have B1 := Lib.hid b1
      clear b1
      go_wp2_with fail
      refine (C1 _).out.mono ?_
      rintro e w2 ⟨rfl, rfl⟩
      go_wp2_with fail
      go_ret3
      exact RWe.mk' rfl rfl rfl B1.out
    | true =>
      obtain ⟨h1, h2⟩ := inB_of hs
      rw [Cd.vl_t, Cd.vl_t, Cd.cd_t]
      rw [hs] at C1
      clear hs
      by_cases hn0 : xs.length = 0
      · rw [if_pos hn0, if_pos hn0, if_pos hn0]
        have hz : ((xs.length : Int) == 0) = true := by rw [hn0]; rfl
        clear hn0
        go_enter Try.func30, Try.ntmps30
        go_wp2_with fail
        refine C.out.mono ?_
        rintro e w1 ⟨rfl, b1⟩
        have B1 := Lib.hid b1
        clear b1
        go_wp2_with fail
        refine (C1 _).out.mono ?_
        rintro e w2 ⟨rfl, rfl⟩
        go_wp2_with fail
        go_ret3
        exact RWe.mk' rfl rfl rfl B1.out
      · rw [if_neg hn0, if_neg hn0, if_neg hn0]
        have hz : ((xs.length : Int) == 0) = false := by rw [beq_eq_false_iff_ne]; omega
        have hpos : 1 ≤ xs.length := by omega
        clear hn0
        go_enter Try.func30, Try.ntmps30
        go_wp2_with fail
        refine C.out.mono ?_
        rintro e w1 ⟨rfl, b1⟩
        have B1 := Lib.hid b1
        clear b1
        go_wp2_with fail
        refine (C1 _).out.mono ?_
        rintro e w2 ⟨rfl, rfl⟩
        go_wp2_with fail
        go_loopw [7, 8] (fun u i wr => ∃ (k c : Nat), 1 ≤ k ∧ k ≤ xs.length ∧ c < k ∧ i = .int .i64 k ∧ u = .int .i64 c ∧ Hid (Wp (Fo.prAt xs s) k c) ∧ Hid (Below w.heap.size w wr)) (fun _ i _ => xs.length - (intOf i).toNat)
        case atStart => exact ⟨1, 0, by omega, by omega, by omega, rfl, rfl, Lib.hid (Wp.one _), B1⟩
        case round =>
          obtain ⟨k, c, hk1, hk, hck, rfl, rfl, hp, hbw⟩ := hrel
          obtain ⟨b, off, cap1, hn, hbl, hcc⟩ := (HV.out.below hbw.out).at_ (show 0 < xs.length by omega)
          simp only [Value.slice.injEq] at hn
          obtain ⟨rfl, -, rfl⟩ := hn
          have P : Hid (∀ n j, j < xs.length → Calls Try.prog 68 #[.pointer (some ⟨b, off + j * 5, none⟩), .int .i64 s] (wr.drewN n) fun e w' => e = .returned (.int .i64 (Fo.prAt xs s j)) ∧ ∃ m, w' = (wr.drewN n).drewN m) := Lib.hid (fun n j hj => by
            rw [Fo.prAt_of hj]
            exact l10Protection_any xs[j] b (off + j * 5) s (wr.drewN n) ((hcc j hj).drewN n) (HF.out _ (List.getElem_mem hj)) h1 h2)
          clear hcc
          by_cases hlt : k < xs.length
          · have hlc : c < xs.length := by omega
            by_cases ht : Fo.prAt xs s k < Fo.prAt xs s c
            · have HN := Lib.hid (hp.out.new ht)
              clear hp
              go_wp2_with fail
              go_quiet ((go_at_call 68; exact Calls.quiet_of (P.out _ _ (by assumption))))
              go_wp2_with fail
              exact ⟨⟨k + 1, k, by omega, by omega, by omega, by go_num, rfl, HN, Lib.hid (below_drewN hbw.out _)⟩, by simp only [intOf]; omega⟩
            · have HN := Lib.hid (hp.out.keep ht)
              clear hp
              go_wp2_with fail
              go_quiet ((go_at_call 68; exact Calls.quiet_of (P.out _ _ (by assumption))))
              go_wp2_with fail
              exact ⟨⟨k + 1, c, by omega, by omega, by omega, by go_num, rfl, HN, Lib.hid (below_drewN hbw.out _)⟩, by simp only [intOf]; omega⟩
          · have hkn : k = xs.length := by omega
            have HR : Hid (w3 (Fo.prAt xs s) xs.length = c) := Lib.hid (w3_of (by rw [← hkn]; exact hp.out))
            have P0 := Lib.hid (P.out 0 c (by omega))
            have hlc : c < xs.length := by omega
            clear hkn hp
            go_wp2_with fail
            refine P0.out.mono ?_
            rintro e w3 ⟨rfl, m, rfl⟩
            go_wp2_with fail
            go_ret3
            exact RWe.mk' (by rw [HR.out]) (by rw [HR.out]) rfl (below_drewN hbw.out _)
set_option maxHeartbeats 3200000 in
theorem implWeakestStand_r (w : World) (v : Value) (xs : List Std) (s : Int) (hv : SnSl w v xs) (hl : xs.length ≤ 1048576) (hi : Ids xs) :
    Calls Try.prog 32 #[v, .int .i64 s] w (RWe w (Fo.weI xs s) (Fo.weM xs s) (Fo.weC xs s)) := by
  obtain ⟨i0, hi0, hz0, hz1, hz2⟩ := info_parts info_i64
  have D := Lib.hid (fun W => demandStated_any s 0 W)
  have C := Lib.hid (fun W (hb : Below w.heap.size w W) => standsCode_any W v xs (Ar.inB 0 s 2000) (hv.below hb) hl hi)
  have HF : Hid (Fo.okS xs = true → ∀ x ∈ xs, Fo.Fits x) := Lib.hid (fun h => (Fo.okS_all h).1)
  obtain ⟨a, cap, rfl⟩ := hv.form
  have HV := Lib.hid hv
  unfold Fo.weI Fo.weM Fo.weC
  rw [Fo.lim_0] at D
  clear hv hi
  cases hq : Fo.okS xs with
  | false =>
    rw [hq] at C
    rw [Cd.vl_f, Cd.vl_f, Cd.cd_f]
    simp only [Cd.cd_f] at C
    clear hq HF
    generalize Ar.inB 0 s 2000 = t at *
    go_enter Try.func32, Try.ntmps32
    go_wp2_with fail
    refine (D.out _).mono ?_
    rintro e w1 ⟨rfl, b1⟩
    have B1 := Lib.hid b1
    clear b1
    go_wp2_with fail
    refine (C.out _ B1.out).mono ?_
    rintro e w2 ⟨rfl, b2⟩
    have B2 := Lib.hid (bt B1.out b2)
    clear b2
    go_wp2_with fail
    go_ret3
    exact RWe.mk' rfl rfl rfl B2.out
  | true =>
    rw [hq] at C
    have HF := Lib.hid (HF.out hq)
    clear hq
    cases hs : Ar.inB 0 s 2000 with
    | false =>
      rw [hs] at C D
      rw [Cd.vl_tf, Cd.vl_tf, Cd.cd_tf]
      simp only [Cd.cd_tf] at C
      clear hs HF
      go_enter Try.func32, Try.ntmps32
      go_wp2_with fail
      refine (D.out _).mono ?_
      rintro e w1 ⟨rfl, b1⟩
      have B1 := Lib.hid b1
      clear b1
      go_wp2_with fail
      refine (C.out _ B1.out).mono ?_
      rintro e w2 ⟨rfl, b2⟩
      have B2 := Lib.hid (bt B1.out b2)
      clear b2
      go_wp2_with fail
      go_ret3
      exact RWe.mk' rfl rfl rfl B2.out
    | true =>
      obtain ⟨h1, h2⟩ := inB_of hs
      rw [hs] at C D
      rw [Cd.vl_t, Cd.vl_t, Cd.cd_t]
      simp only [Cd.cd_t] at C
      clear hs
      by_cases hn0 : xs.length = 0
      · rw [if_pos hn0, if_pos hn0, if_pos hn0]
        have hz : ((xs.length : Int) == 0) = true := by rw [hn0]; rfl
        clear hn0
        go_enter Try.func32, Try.ntmps32
        go_wp2_with fail
        refine (D.out _).mono ?_
        rintro e w1 ⟨rfl, b1⟩
        have B1 := Lib.hid b1
        clear b1
        go_wp2_with fail
        refine (C.out _ B1.out).mono ?_
        rintro e w2 ⟨rfl, b2⟩
        have B2 := Lib.hid (bt B1.out b2)
        clear b2
        go_wp2_with fail
        go_ret3
        exact RWe.mk' rfl rfl rfl B2.out
      · rw [if_neg hn0, if_neg hn0, if_neg hn0]
        have hz : ((xs.length : Int) == 0) = false := by rw [beq_eq_false_iff_ne]; omega
        have hpos : 1 ≤ xs.length := by omega
        clear hn0
        go_enter Try.func32, Try.ntmps32
        go_wp2_with fail
        refine (D.out _).mono ?_
        rintro e w1 ⟨rfl, b1⟩
        have B1 := Lib.hid b1
        clear b1
        go_wp2_with fail
        refine (C.out _ B1.out).mono ?_
        rintro e w2 ⟨rfl, b2⟩
        have B2 := Lib.hid (bt B1.out b2)
        clear b2
        go_wp2_with (at_make; refine wpList_make_own _ rfl _ _ 22 rfl w.heap.size 2 i0 (.int .i64 0) 1 Try.underlying22 hi0 hz0 hz1 .i64 .i64 _ xs.length rfl rfl rfl ?c1 ?c2 ?c3 ?_)
        case c1 => rw [hz2]; omega
        case c2 => unfold maxLen; omega
        case c3 => exact B2.out.size
        intro w3 hown hg
        have O1 : Hid (Own w.heap.size w3 _ (Fo.prs (xs.take 0) s)) := Lib.hid hown
        have B3 := Lib.hid (B2.out.grown hg B2.out.size (fun k hk => by cases hk))
        clear hown hg
        go_wp2
        go_loopw [8, 29] (fun u i wr => ∃ (k : Nat), k ≤ xs.length ∧ i = .int .i64 k ∧ Hid (Own w.heap.size wr u (Fo.prs (xs.take k) s)) ∧ Hid (Below w.heap.size w wr)) (fun _ i _ => xs.length - (intOf i).toNat)
        case atStart => exact ⟨0, Nat.zero_le _, rfl, O1, B3⟩
        case round =>
          obtain ⟨k, hk, rfl, ho, hbw⟩ := hrel
          by_cases hlt : k < xs.length
          · have hltz : (k : Int) < (xs.length : Int) := by omega
            obtain ⟨b, off, cap1, hn, hbl, hcc⟩ := (HV.out.below hbw.out).at_ hlt
            simp only [Value.slice.injEq] at hn
            obtain ⟨rfl, -, rfl⟩ := hn
            obtain ⟨c0, c1, c2, c3, c4⟩ := hcc k hlt
            have hlen : (Fo.prs (xs.take k) s).length ≤ k := by rw [Fo.prs_length]; exact List.length_take_le _ _
            have P := Lib.hid (fun W => protection_any xs[k] s W (HF.out _ (List.getElem_mem hlt)) h1 h2)
            have hw : Hid (Fo.prs (xs.take k) s ++ [Fo.prAt xs s k] = Fo.prs (xs.take (k + 1)) s) := Lib.hid (Fo.prs_snoc hlt).symm
            have ep : Hid (Fo.pr xs[k] s = Fo.prAt xs s k) := Lib.hid (Fo.prAt_of hlt).symm
            rw [ep.out] at P
            clear hcc ep
            generalize Fo.prAt xs s k = y at *
            go_wp2_with fail
            refine (P.out _).mono ?_
            rintro e w4 ⟨rfl, b4⟩
            have O4 := Lib.hid (own_belowAll (own_belowAll ho.out ((Below.refl _ _).alloc (Nat.le_refl _) _)) b4)
            have B4 := Lib.hid (bt (hbw.out.alloc hbw.out.size _) b4)
            clear b4 ho hbw c0 c1 c2 c3 c4
            go_wp2_with (at_builtin; refine wpList_append_own _ rfl _ _ 22 rfl w.heap.size 2 i0 (.int .i64 0) 1 8 Try.underlying22 hi0 hz0 hz1 hz2 rfl (by decide) _ _ _ rfl (own_belowAll O4.out ((Below.refl _ _).alloc (Nat.le_refl _) _)) ⟨w4.heap.size, 0, none⟩ 1 1 [.int .i64 y] rfl rfl (row_new _ [_] _) (iv_cell [y]) ?c3 ?c4 ?c5 ?_)
            case c3 => unfold maxLen; omega
            case c4 => omega
            case c5 => have := B4.out.size; first | omega | (simp; omega)
            intro v' w5 hown' hgrow _
            have hnx : Hid (Own w.heap.size w5 v' (Fo.prs (xs.take (k + 1)) s)) := Lib.hid (by rw [← hw.out]; unfold Own; rw [iv_append, List.length_append]; exact hown')
            have hnb : Hid (Below w.heap.size w w5) := Lib.hid ((B4.out.alloc B4.out.size _).grown hgrow (by have := B4.out.size; simp; omega) (fun j hj => (O4.out.lt j hj).1))
            clear hown' hgrow O4 B4
            go_wp2
            exact ⟨⟨k + 1, by omega, by go_num, hnx, hnb⟩, by simp only [intOf]; omega⟩
          · have hltz : ¬ (k : Int) < (xs.length : Int) := by omega
            have hkn : k = xs.length := by omega
            have hh : xs.take k = xs := by rw [hkn, List.take_length]
            rw [hh] at ho
            clear hkn hh
            obtain ⟨c, hc⟩ := Wp.ex (Fo.prAt xs s) xs.length (by omega)
            have HR : Hid (Go.Proofs.Ytaldmdammipfjaa.w3 (Fo.prAt xs s) xs.length = c) := Lib.hid (w3_of hc)
            have hzs : ∀ k (h : k < (Fo.prs xs s).length), (Fo.prs xs s)[k] = Fo.prAt xs s k := fun k h => Fo.prs_at h
            have hle := Fo.prs_length xs s
            have M := Lib.hid (firstLeastS_any (Fo.prAt xs s) c wr _ (Fo.prs xs s) hzs (by rw [hle]; exact hc) (Own.sl ho.out) (by rw [hle]; exact hl))
            clear hzs hle hc ho
            go_wp2_with fail
            refine M.out.mono ?_
            rintro e w5 ⟨rfl, b4⟩
            have B5 := Lib.hid (bt hbw.out b4)
            clear b4
            go_wp2_with fail
            go_ret3
            exact RWe.mk' (by rw [HR.out]) (by rw [HR.out]) rfl B5.out
theorem specWeakestStand_any (w : World) (v : Value) (xs : List Std) (s : Int) (hv : SnSl w v xs) (hl : xs.length ≤ 1048576) (hi : Ids xs) :
    Calls Try.prog 30 #[v, .int .i64 s] w fun e w' => e = .returned (.tuple #[.int .i64 (Fo.weI xs s), .int .i64 (Fo.weM xs s), .int .i64 (Fo.weC xs s)]) ∧ Below w.heap.size w w' := specWeakestStand_r w v xs s hv hl hi
theorem implWeakestStand_any (w : World) (v : Value) (xs : List Std) (s : Int) (hv : SnSl w v xs) (hl : xs.length ≤ 1048576) (hi : Ids xs) :
    Calls Try.prog 32 #[v, .int .i64 s] w fun e w' => e = .returned (.tuple #[.int .i64 (Fo.weI xs s), .int .i64 (Fo.weM xs s), .int .i64 (Fo.weC xs s)]) ∧ Below w.heap.size w w' := implWeakestStand_r w v xs s hv hl hi
end Go.Proofs.Ytaldmdammipfjaa

/-
  The greatest height of snow, the most trees: by the model and by the program. The condition: no name is longer than 2^20. (Written by wip/gen/genfoe.py.)
-/
import Derived.Test.YtecobplmkdlagaaFoC
import Derived.Test.YtecobplmkdlagaaFoP
import Derived.Test.YtecobplmkdlagaaFoD
import Derived.Test.YtecobplmkdlagaaSrch
import Derived.Laws.EntriesVeiled
namespace Go.Proofs.Ytecobplmkdlagaa
open Go.RowKit Go.Shelf
set_option linter.unusedVariables false
set_option maxRecDepth 100000

set_option maxHeartbeats 1600000 in
/-- sort.Search at a closure (its captured variables lb): of the world no more than that all lies as it lay -/
theorem searchC_any (g : Nat) (lb : Array Value) (eg : ∀ args w, (callFunc g args).run Try.prog w = .ok (.enter g args) w) (n : Nat) (p : Nat → Bool) (w : World) (hn : n ≤ 1048576)
    (hf : ∀ (W : World) (i : Nat), Below w.heap.size w W → i < n → Calls Try.prog g (#[.int .i64 (i : Int)] ++ lb) W fun e w' => e = .returned (.bool (p i)) ∧ Below W.heap.size W w')
    (hm : ∀ a b, a ≤ b → b < n → p a = true → p b = true) :
    Calls Try.prog 89 #[.int .i64 (n : Int), .func (.func g) #[] lb] w (SrchB n p w) := by
  have HF := Lib.hid hf
  have HM := Lib.hid hm
  clear hf hm
  go_enter Try.func89, Try.ntmps89
  go_wp2
  go_loopw [5, 6] (fun x y wr => ∃ (i j : Nat), i ≤ j ∧ j ≤ n ∧ x = .int .i64 i ∧ y = .int .i64 j ∧ Hid (∀ a, a < i → p a = false) ∧ Hid (∀ a, j ≤ a → a < n → p a = true) ∧ Hid (Below w.heap.size w wr)) (fun x y _ => (intOf y - intOf x).toNat)
  case atStart => exact ⟨0, n, Nat.zero_le _, Nat.le_refl _, rfl, rfl, Lib.hid (fun a h => absurd h (Nat.not_lt_zero _)), Lib.hid (fun a h1 h2 => by omega), Lib.hid (Below.refl _ _)⟩
  case round =>
    obtain ⟨i, j, hij, hj, rfl, rfl, hlo, hhi, hbw⟩ := hrel
    by_cases hlt : i < j
    · have hmid : i ≤ (i + j) / 2 ∧ (i + j) / 2 < j := by omega
      have C := Lib.hid (HF.out wr ((i + j) / 2) hbw.out (by omega))
      have E : Hid (((i : Int) + (j : Int)) / 2 = (((i + j) / 2 : Nat) : Int)) := Lib.hid (by omega)
      have HI := fun m (hm : p m = true) (hmn : m < n) => Lib.hid (fun a (h1 : m ≤ a) (h2 : a < n) => HM.out m a h1 h2 hm)
      have HL := fun m (hm : p m = false) (hmn : m < n) => Lib.hid (fun a (h1 : a < m + 1) => (by
        rcases Bool.eq_false_or_eq_true (p a) with h | h
        · have := HM.out a m (by omega) hmn h; rw [hm] at this; cases this
        · exact h : p a = false))
      go_wp2_with fail
      rw [E.out]
      clear E
      generalize (i + j) / 2 = m at *
      obtain ⟨m1, m2⟩ := hmid
      cases hq : p m with
      | true =>
        have H1 := HI m hq (by omega)
        rw [hq] at C
        clear hq HI HL
        refine C.out.mono ?_
        rintro e w2 ⟨rfl, b2⟩
        have B2 := Lib.hid (bt hbw.out b2)
        clear b2 hbw
        go_wp2_with fail
        exact ⟨⟨i, m, by omega, by omega, rfl, rfl, hlo, H1, B2⟩, by simp only [intOf]; omega⟩
      | false =>
        have H1 := HL m hq (by omega)
        rw [hq] at C
        clear hq HI HL
        refine C.out.mono ?_
        rintro e w2 ⟨rfl, b2⟩
        have B2 := Lib.hid (bt hbw.out b2)
        clear b2 hbw
        go_wp2_with fail
        exact ⟨⟨m + 1, j, by omega, by omega, by go_num, rfl, H1, hhi, B2⟩, by simp only [intOf]; omega⟩
    · have he : i = j := by omega
      subst he
      go_wp2
      go_ret
      exact ⟨i, hj, rfl, hlo.out, hhi.out, hbw.out⟩
set_option maxHeartbeats 800000 in
theorem mostBefore1_any (g : Nat) (lb : Array Value) (eg : ∀ args w, (callFunc g args).run Try.prog w = .ok (.enter g args) w) (i : Int) (b : Nat) (r : Bool) (w : World) (hc : w.cell? ⟨b, 0, none⟩ = some (.func (.func g) #[] lb))
    (C : Calls Try.prog g (#[.int .i64 i] ++ lb) w fun e w' => e = .returned (.bool r) ∧ Below w.heap.size w w') :
    Calls Try.prog 90 #[.int .i64 i, .pointer (some ⟨b, 0, none⟩)] w fun e w' => e = .returned (.bool r) ∧ Below w.heap.size w w' := by
  have HC := Lib.hid C
  clear C
  go_enter Try.func90, Try.ntmps90
  go_wp2_with (go_at_fn g; refine HC.out.mono ?_; rintro e w1 ⟨rfl, b1⟩; have B1 := Lib.hid b1; clear b1)
  go_ret
  exact ⟨rfl, B1.out⟩
/-- the world with a function value in a new block -/
def boxF (w : World) (v : Value) (t : TypeId) : World := w.alloc (.cells #[v] t)
theorem boxF_below (w : World) (v : Value) (t : TypeId) : Below w.heap.size w (boxF w v t) := (Below.refl _ _).alloc (Nat.le_refl _) _
theorem boxF_kept {w W : World} {v : Value} {t : TypeId} (h : Below (boxF w v t).heap.size (boxF w v t) W) : W.cell? ⟨w.heap.size, 0, none⟩ = some v := ((Whole.new w t #[v]).all h).at_ 0
set_option maxHeartbeats 1600000 in
theorem mostBefore_any (g : Nat) (lb : Array Value) (eg : ∀ args w, (callFunc g args).run Try.prog w = .ok (.enter g args) w) (n : Nat) (p : Nat → Bool) (w : World) (hn : n ≤ 100000)
    (hf : ∀ (W : World) (i : Nat), Below w.heap.size w W → i ≤ n → Calls Try.prog g (#[.int .i64 (i : Int)] ++ lb) W fun e w' => e = .returned (.bool (!p i)) ∧ Below W.heap.size W w')
    (hm : ∀ a b, a ≤ b → b ≤ n → p b = true → p a = true) :
    Calls Try.prog 63 #[.int .i64 (n : Int), .func (.func g) #[] lb] w fun e w' => e = .returned (.tuple #[.int .i64 (Fo.oV (Fo.tp p n)), .int .i64 (Fo.oC (Fo.tp p n))]) ∧ Below w.heap.size w w' := by
  have eg1 := enters_of Try.func90 (by kernel_rfl) rfl
  have B := Lib.hid (boxF_below w (.func (.func g) #[] lb) 65)
  have SC : Hid (Calls Try.prog 89 #[.int .i64 ((n + 1 : Nat) : Int), .func (.func 90) #[] #[.pointer (some ⟨w.heap.size, 0, none⟩)]] (boxF w (.func (.func g) #[] lb) 65) (SrchB (n + 1) (fun i => !p i) (boxF w (.func (.func g) #[] lb) 65))) :=
    Lib.hid (searchC_any 90 #[.pointer (some ⟨w.heap.size, 0, none⟩)] eg1 (n + 1) (fun i => !p i) (boxF w (.func (.func g) #[] lb) 65) (by omega)
      (fun W i hb hi => mostBefore1_any g lb eg (i : Int) w.heap.size (!p i) W (boxF_kept hb) (hf W i (bt B.out hb) (by omega)))
      (fun a b hab hbn ha => by
        simp only [Bool.not_eq_true'] at ha ⊢
        rw [Bool.eq_false_iff]; intro hc
        have := hm a b hab (by omega) hc
        rw [ha] at this; cases this))
  have T : Hid (∀ f, f ≤ n + 1 → (∀ a, a < f → (!p a) = false) → (∀ a, f ≤ a → a < n + 1 → (!p a) = true) → Fo.tp p n = if f = 0 then none else some (f - 1)) := Lib.hid (fun f h1 h2 h3 =>
    Fo.tp_first h1 (fun j hj => by simpa using h2 j hj) (fun j hj hjn => by simpa using h3 j hj (by omega)))
  rw [Int.natCast_add] at SC
  clear hf hm eg1
  unfold boxF at B SC
  go_enter Try.func63, Try.ntmps63
  go_wp2_with fail
  refine SC.out.mono ?_
  rintro e w1 ⟨f, hfn, rfl, h1, h2, b1⟩
  have B1 := Lib.hid (bt B.out b1)
  have TT := Lib.hid (T.out f hfn h1 h2)
  clear SC T h1 h2 b1
  by_cases h0 : f = 0
  · subst h0
    have TN : Hid (Fo.tp p n = none) := Lib.hid (by rw [TT.out, if_pos rfl])
    clear TT
    go_wp2_with fail
    go_ret2
    exact ⟨by rw [TN.out]; rfl, B1.out⟩
  · have hz : ((f : Int) == 0) = false := by rw [beq_eq_false_iff_ne]; omega
    have TN : Hid (Fo.oV (Fo.tp p n) = (f : Int) - 1 ∧ Fo.oC (Fo.tp p n) = 0) := Lib.hid (by
      rw [TT.out, if_neg h0]
      exact ⟨by show ((f - 1 : Nat) : Int) = _; omega, rfl⟩)
    have hf1 : 1 ≤ (f : Int) := by omega
    clear h0 TT
    go_wp2_with fail
    go_ret2
    exact ⟨by rw [TN.out.1, TN.out.2]; rfl, B1.out⟩
namespace Fo
theorem msP_z {x : Std} {l z : Int} (h : 0 ≤ z) : msP x l z.toNat = decide (l ≤ pr x z) := by unfold msP met; rw [Int.toNat_of_nonneg h]
theorem mfP_z {x : Std} {s l z : Int} (h : 0 ≤ z) : mfP x s l z.toNat = decide (l ≤ pr (fe x z) s) := by unfold mfP met; rw [Int.toNat_of_nonneg h]
theorem oV_some {z : Int} (h : 0 ≤ z) : oV (some z.toNat) = z := Int.toNat_of_nonneg h
end Fo
set_option maxHeartbeats 3200000 in
theorem specMostSnow_any (x : Std) (l : Int) (w : World) (hx : x.id.length ≤ 1048576) :
    Calls Try.prog 30 #[.agg #[.string ⟨x.id.toArray⟩, .int .i64 x.tr, .int .i64 x.he, .int .i64 x.co, .int .i64 x.ga], .int .i64 l] w fun e w' => e = .returned (.tuple #[.int .i64 (Fo.msV x l), .int .i64 (Fo.msC x l)]) ∧ Below w.heap.size w w' := by
  have O := Lib.hid (l10One_any x w.heap.size 0 _ (boxStd_cells w x 34) hx)
  have S := Lib.hid (fun W => l10Least_any l W)
  have B := Lib.hid (boxStd_below w x 34)
  have K := Lib.hid (fun W (hb : Below (boxStd w x 34).heap.size (boxStd w x 34) W) => boxStd_kept hb)
  unfold Fo.msV Fo.msC
  unfold boxStd at O B K
  cases hq : Fo.ok1 x with
  | false =>
    rw [hq] at O
    rw [Cd.vl_f, Cd.cd_f]
    clear hq hx
    go_enter Try.func30, Try.ntmps30
    go_wp2_with fail
    refine O.out.mono ?_
    rintro e w' ⟨rfl, rfl⟩
    go_wp2_with fail
    go_ret2
    exact ⟨rfl, B.out⟩
  | true =>
    rw [hq] at O
    have hf := Lib.hid (Fo.ok1_fits hq)
    clear hq hx
    cases hs : Ar.inB 0 l 1000 with
    | false =>
      rw [hs] at S
      rw [Cd.vl_tf, Cd.cd_tf]
      clear hs
      go_enter Try.func30, Try.ntmps30
      go_wp2_with fail
      refine O.out.mono ?_
      rintro e w' ⟨rfl, rfl⟩
      go_wp2_with fail
      refine (S.out _).mono ?_
      rintro e w' ⟨rfl, rfl⟩
      go_wp2_with fail
      go_ret2
      exact ⟨rfl, B.out⟩
    | true =>
      rw [hs] at S
      rw [Cd.vl_t, Cd.cd_t]
      clear hs
      have Z : Hid (Fo.msO x l = Fo.tz (Fo.msP x l) 2000) := Lib.hid (Fo.tz_nat (p := Fo.msP x l) 2000).symm
      go_enter Try.func30, Try.ntmps30
      go_wp2_with fail
      refine O.out.mono ?_
      rintro e w' ⟨rfl, rfl⟩
      go_wp2_with fail
      refine (S.out _).mono ?_
      rintro e w' ⟨rfl, rfl⟩
      go_wp2_with fail
      have K0 : Hid (Below (w.alloc (.cells #[.string ⟨x.id.toArray⟩, .int .i64 x.tr, .int .i64 x.he, .int .i64 x.co, .int .i64 x.ga] 34)).heap.size (w.alloc (.cells #[.string ⟨x.id.toArray⟩, .int .i64 x.tr, .int .i64 x.he, .int .i64 x.co, .int .i64 x.ga] 34)) (w.alloc (.cells #[.string ⟨x.id.toArray⟩, .int .i64 x.tr, .int .i64 x.he, .int .i64 x.co, .int .i64 x.ga] 34))) := Lib.hid (Below.refl _ _)
      go_loopw [6] (fun sn wr => ∃ z : Int, -1 ≤ z ∧ z ≤ 2000 ∧ sn = .int .i64 z ∧ Hid (Fo.msO x l = Fo.tz (Fo.msP x l) z) ∧ Hid (Below (w.alloc (.cells #[.string ⟨x.id.toArray⟩, .int .i64 x.tr, .int .i64 x.he, .int .i64 x.co, .int .i64 x.ga] 34)).heap.size (w.alloc (.cells #[.string ⟨x.id.toArray⟩, .int .i64 x.tr, .int .i64 x.he, .int .i64 x.co, .int .i64 x.ga] 34)) wr)) (fun sn _ => (intOf sn + 1).toNat)
      case atStart => exact ⟨2000, by omega, by omega, rfl, Z, K0⟩
      case round =>
        obtain ⟨z, z1, z2, rfl, hz, hb⟩ := hrel
        by_cases h0 : 0 ≤ z
        · have P := Lib.hid (l10Prot_b x w.heap.size 0 z wr (K.out wr hb.out) hf.out h0 z2)
          have hY := Lib.hid (fun h : l ≤ Fo.pr x z => hz.out.trans (Fo.tz_yes h0 (by rw [Fo.msP_z h0]; exact decide_eq_true h)))
          have hN := Lib.hid (fun h : ¬ l ≤ Fo.pr x z => hz.out.trans (Fo.tz_no h0 (by rw [Fo.msP_z h0]; exact decide_eq_false h)))
          clear hz
          by_cases ht : l ≤ Fo.pr x z
          · have hR := Lib.hid (hY.out ht)
            clear hY hN
            generalize Fo.pr x z = p at *
            go_wp2_with fail
            refine P.out.mono ?_
            rintro e w2 ⟨rfl, b2⟩
            have B2 := Lib.hid (bt B.out (bt hb.out b2))
            clear b2
            go_wp2_with fail
            go_ret2
            exact ⟨by rw [hR.out, Fo.oV_some h0]; rfl, B2.out⟩
          · have hR := Lib.hid (hN.out ht)
            clear hY hN
            generalize Fo.pr x z = p at *
            go_wp2_with fail
            refine P.out.mono ?_
            rintro e w2 ⟨rfl, b2⟩
            have B2 := Lib.hid (bt hb.out b2)
            clear b2
            go_wp2_with fail
            exact ⟨⟨z - 1, by omega, by omega, rfl, hR, B2⟩, by simp only [intOf]; omega⟩
        · have hR : Hid (Fo.msO x l = none) := Lib.hid (by rw [hz.out]; exact Fo.tz_neg (by omega))
          have B2 := Lib.hid (bt B.out hb.out)
          clear hz
          go_wp2_with fail
          go_ret2
          exact ⟨by rw [hR.out]; rfl, B2.out⟩
/-- the world with a stand and a number in new blocks -/
def boxSN (w : World) (x : Std) (l : Int) (t u : TypeId) : World := (boxStd w x t).alloc (.cells #[.int .i64 l] u)
theorem boxSN_below (w : World) (x : Std) (l : Int) (t u : TypeId) : Below w.heap.size w (boxSN w x l t u) := (boxStd_below w x t).alloc (by rw [boxStd_size]; omega) _
theorem boxSN_kept {w W : World} {x : Std} {l : Int} {t u : TypeId} (h : Below (boxSN w x l t u).heap.size (boxSN w x l t u) W) :
    SnCells W w.heap.size 0 x ∧ W.cell? ⟨w.heap.size + 1, 0, none⟩ = some (.int .i64 l) := by
  have h1 : Below (boxStd w x t).heap.size (boxStd w x t) (boxSN w x l t u) := (Below.refl _ _).alloc (Nat.le_refl _) _
  have h2 := ((Whole.new (boxStd w x t) u #[.int .i64 l]).all h).at_ 0
  rw [boxStd_size] at h2
  exact ⟨boxStd_kept (bt h1 h), h2⟩
set_option maxHeartbeats 1600000 in
theorem mostSnow1_any (x : Std) (l z : Int) (bx bl : Nat) (w : World) (hc : SnCells w bx 0 x) (hl : w.cell? ⟨bl, 0, none⟩ = some (.int .i64 l)) (hf : Fo.Fits x) (h1 : 0 ≤ z) (h2 : z ≤ 2000) :
    Calls Try.prog 64 #[.int .i64 z, .pointer (some ⟨bl, 0, none⟩), .pointer (some ⟨bx, 0, none⟩)] w fun e w' => e = .returned (.bool (!Fo.met z l x)) ∧ Below w.heap.size w w' := by
  have M := Lib.hid (fun W => isMetBy_any z l x W hf h1 h2)
  obtain ⟨c0, c1, c2, c3, c4⟩ := hc.zero
  clear hf hc
  generalize Fo.met z l x = p at *
  go_enter Try.func64, Try.ntmps64
  go_wp2_with fail
  refine (M.out _).mono ?_
  rintro e w1 ⟨rfl, b1⟩
  have B1 := Lib.hid b1
  clear b1
  go_wp2_with fail
  go_ret
  exact ⟨rfl, B1.out⟩
set_option maxHeartbeats 3200000 in
theorem implMostSnow_any (x : Std) (l : Int) (w : World) (hx : x.id.length ≤ 1048576) :
    Calls Try.prog 31 #[.agg #[.string ⟨x.id.toArray⟩, .int .i64 x.tr, .int .i64 x.he, .int .i64 x.co, .int .i64 x.ga], .int .i64 l] w fun e w' => e = .returned (.tuple #[.int .i64 (Fo.msV x l), .int .i64 (Fo.msC x l)]) ∧ Below w.heap.size w w' := by
  have D := Lib.hid (fun W => demandStated_any 0 l W)
  have C := Lib.hid (fun W => standCode_any x (Ar.inB 0 l 1000) W hx)
  have B := Lib.hid (boxSN_below w x l 34 2)
  have K := Lib.hid (fun W (hb : Below (boxSN w x l 34 2).heap.size (boxSN w x l 34 2) W) => boxSN_kept hb)
  have eg := enters_of Try.func64 (by kernel_rfl) rfl
  have Q := Lib.hid (fun (hf : Fo.Fits x) W (hw : Below (boxSN w x l 34 2).heap.size (boxSN w x l 34 2) W) =>
    mostBefore_any 64 #[.pointer (some ⟨w.heap.size + 1, 0, none⟩), .pointer (some ⟨w.heap.size, 0, none⟩)] eg 2000 (Fo.msP x l) W (by omega)
      (fun W2 i hb hi => mostSnow1_any x l (i : Int) w.heap.size (w.heap.size + 1) W2 (boxSN_kept (bt hw hb)).1 (boxSN_kept (bt hw hb)).2 hf (by omega) (by omega))
      (fun a b hab _ h => Fo.msP_down hab h))
  have F : Hid (Fo.ok1 x = true → Fo.Fits x) := Lib.hid Fo.ok1_fits
  have E : Hid (Fo.tp (Fo.msP x l) 2000 = Fo.msO x l) := Lib.hid rfl
  unfold Fo.msV Fo.msC
  rw [Fo.lim_l] at D
  simp only [E.out] at Q
  clear hx eg E
  generalize Fo.msO x l = o at *
  generalize Fo.ok1 x = q at *
  unfold boxSN boxStd at B K Q
  cases hs : Ar.inB 0 l 1000 with
  | false =>
    rw [hs] at C D
    have hc : Hid ((Cd.cd q false 0 != 0) = true) := Lib.hid (by cases q <;> rfl)
    have hv : Hid (Cd.vl q false (Fo.oV o) = 0) := Lib.hid (by cases q <;> rfl)
    have hd : Hid (Cd.cd q false (Fo.oC o) = Cd.cd q false 0) := Lib.hid (by cases q <;> rfl)
    rw [hv.out, hd.out]
    clear hd
    generalize Cd.cd q false 0 = c at *
    have hc := hc.out
    clear hs hv F Q
    go_enter Try.func31, Try.ntmps31
    go_wp2_with fail
    go_region_held3 (fun w' => w'.cell? ⟨w.heap.size, 0, none⟩ = some (.string ⟨x.id.toArray⟩) ∧ w'.cell? ⟨w.heap.size, 1, none⟩ = some (.int .i64 x.tr) ∧ w'.cell? ⟨w.heap.size, 2, none⟩ = some (.int .i64 x.he) ∧ w'.cell? ⟨w.heap.size, 3, none⟩ = some (.int .i64 x.co) ∧ w'.cell? ⟨w.heap.size, 4, none⟩ = some (.int .i64 x.ga) ∧ w'.cell? ⟨w.heap.size + 1, 0, none⟩ = some (.int .i64 l)) (go_keep)
      (first
        | (go_at_call 54; refine (D.out _).mono ?_; rintro e wA ⟨rfl, bA⟩; have bA0 := bt (below_drewW _ 1) bA; obtain ⟨yy, y5⟩ := K.out wA bA0; obtain ⟨y0, y1, y2, y3, y4⟩ := yy.zero)
        | (go_at_call 53; refine (C.out _).mono ?_; rintro e wB ⟨rfl, bB⟩; have bB0 := bt bA0 bB; obtain ⟨zz, z5⟩ := K.out wB bB0; obtain ⟨z0, z1, z2, z3, z4⟩ := zz.zero))
    all_goals (
      go_wp2_with fail
      go_ret2
      exact ⟨rfl, bt B.out bB0⟩)
  | true =>
    rw [hs] at C D
    clear hs
    cases q with
    | false =>
      rw [Cd.vl_f, Cd.cd_f]
      simp only [Cd.cd_f] at C
      clear F Q
      go_enter Try.func31, Try.ntmps31
      go_wp2_with fail
      go_region_held3 (fun w' => w'.cell? ⟨w.heap.size, 0, none⟩ = some (.string ⟨x.id.toArray⟩) ∧ w'.cell? ⟨w.heap.size, 1, none⟩ = some (.int .i64 x.tr) ∧ w'.cell? ⟨w.heap.size, 2, none⟩ = some (.int .i64 x.he) ∧ w'.cell? ⟨w.heap.size, 3, none⟩ = some (.int .i64 x.co) ∧ w'.cell? ⟨w.heap.size, 4, none⟩ = some (.int .i64 x.ga) ∧ w'.cell? ⟨w.heap.size + 1, 0, none⟩ = some (.int .i64 l)) (go_keep)
      (first
        | (go_at_call 54; refine (D.out _).mono ?_; rintro e wA ⟨rfl, bA⟩; have bA0 := bt (below_drewW _ 1) bA; obtain ⟨yy, y5⟩ := K.out wA bA0; obtain ⟨y0, y1, y2, y3, y4⟩ := yy.zero)
        | (go_at_call 53; refine (C.out _).mono ?_; rintro e wB ⟨rfl, bB⟩; have bB0 := bt bA0 bB; obtain ⟨zz, z5⟩ := K.out wB bB0; obtain ⟨z0, z1, z2, z3, z4⟩ := zz.zero))
      all_goals (
        go_wp2_with fail
        go_ret2
        exact ⟨rfl, bt B.out bB0⟩)
    | true =>
      have Q := Lib.hid (Q.out (F.out rfl))
      rw [Cd.vl_t, Cd.cd_t]
      simp only [Cd.cd_t] at C
      clear F
      go_enter Try.func31, Try.ntmps31
      go_wp2_with fail
      go_region_held3 (fun w' => w'.cell? ⟨w.heap.size, 0, none⟩ = some (.string ⟨x.id.toArray⟩) ∧ w'.cell? ⟨w.heap.size, 1, none⟩ = some (.int .i64 x.tr) ∧ w'.cell? ⟨w.heap.size, 2, none⟩ = some (.int .i64 x.he) ∧ w'.cell? ⟨w.heap.size, 3, none⟩ = some (.int .i64 x.co) ∧ w'.cell? ⟨w.heap.size, 4, none⟩ = some (.int .i64 x.ga) ∧ w'.cell? ⟨w.heap.size + 1, 0, none⟩ = some (.int .i64 l)) (go_keep)
      (first
        | (go_at_call 54; refine (D.out _).mono ?_; rintro e wA ⟨rfl, bA⟩; have bA0 := bt (below_drewW _ 1) bA; obtain ⟨yy, y5⟩ := K.out wA bA0; obtain ⟨y0, y1, y2, y3, y4⟩ := yy.zero)
        | (go_at_call 53; refine (C.out _).mono ?_; rintro e wB ⟨rfl, bB⟩; have bB0 := bt bA0 bB; obtain ⟨zz, z5⟩ := K.out wB bB0; obtain ⟨z0, z1, z2, z3, z4⟩ := zz.zero))
      all_goals (
        have B2 := Lib.hid bB0
        clear bB0 bB bA bA0 y0 y1 y2 y3 y4
        go_wp2_with fail
        refine (Q.out _ B2.out).mono ?_
        rintro e wC ⟨rfl, bC⟩
        have B3 := Lib.hid (bt B.out (bt B2.out bC))
        clear bC
        go_wp2_with fail
        go_ret2
        exact ⟨rfl, B3.out⟩)
set_option maxHeartbeats 3200000 in
theorem specMostFelled_any (x : Std) (s l : Int) (w : World) (hx : x.id.length ≤ 1048576) :
    Calls Try.prog 39 #[.agg #[.string ⟨x.id.toArray⟩, .int .i64 x.tr, .int .i64 x.he, .int .i64 x.co, .int .i64 x.ga], .int .i64 s, .int .i64 l] w fun e w' => e = .returned (.tuple #[.int .i64 (Fo.mfV x s l), .int .i64 (Fo.mfC x s l)]) ∧ Below w.heap.size w w' := by
  have O := Lib.hid (l10One_any x w.heap.size 0 _ (boxStd_cells w x 34) hx)
  have S1 := Lib.hid (fun W => l10Snow_any s W)
  have S := Lib.hid (fun W => l10Least_any l W)
  have B := Lib.hid (boxStd_below w x 34)
  have K := Lib.hid (fun W (hb : Below (boxStd w x 34).heap.size (boxStd w x 34) W) => boxStd_kept hb)
  unfold Fo.mfV Fo.mfC
  unfold boxStd at O B K
  cases hq : Fo.ok1 x with
  | false =>
    rw [hq] at O
    rw [Cd.vl_f, Cd.cd_f]
    clear hq hx
    go_enter Try.func39, Try.ntmps39
    go_wp2_with fail
    refine O.out.mono ?_
    rintro e w' ⟨rfl, rfl⟩
    go_wp2_with fail
    go_ret2
    exact ⟨rfl, B.out⟩
  | true =>
    rw [hq] at O
    have hf := Lib.hid (Fo.ok1_fits hq)
    clear hq hx
    cases hs : Fo.lim s l with
    | false =>
      rw [Cd.vl_tf, Cd.cd_tf]
      unfold Fo.lim at hs
      cases hp : Ar.inB 0 s 2000 with
      | false =>
        rw [hp] at S1
        clear hs hp
        go_enter Try.func39, Try.ntmps39
        go_wp2_with fail
        refine O.out.mono ?_
        rintro e w' ⟨rfl, rfl⟩
        go_wp2_with fail
        refine (S1.out _).mono ?_
        rintro e w' ⟨rfl, rfl⟩
        go_wp2_with fail
        go_ret2
        exact ⟨rfl, B.out⟩
      | true =>
        rw [hp, Bool.true_and] at hs
        rw [hp] at S1
        rw [hs] at S
        clear hs hp
        go_enter Try.func39, Try.ntmps39
        go_wp2_with fail
        refine O.out.mono ?_
        rintro e w' ⟨rfl, rfl⟩
        go_wp2_with fail
        refine (S1.out _).mono ?_
        rintro e w' ⟨rfl, rfl⟩
        go_wp2_with fail
        refine (S.out _).mono ?_
        rintro e w' ⟨rfl, rfl⟩
        go_wp2_with fail
        go_ret2
        exact ⟨rfl, B.out⟩
    | true =>
      obtain ⟨⟨h1, h2⟩, h3, h4⟩ := Fo.lim_of hs
      rw [Cd.vl_t, Cd.cd_t]
      unfold Fo.lim at hs
      rw [Bool.and_eq_true] at hs
      rw [hs.1] at S1
      rw [hs.2] at S
      clear hs
      have t1 := hf.out.t1
      have t2 := hf.out.t2
      have Z : Hid (Fo.mfO x s l = Fo.tz (Fo.mfP x s l) x.tr) := Lib.hid (by
        have := Fo.tz_nat (p := Fo.mfP x s l) x.tr.toNat
        rw [Int.toNat_of_nonneg t1] at this
        exact this.symm)
      have K0 : Hid (Below (w.alloc (.cells #[.string ⟨x.id.toArray⟩, .int .i64 x.tr, .int .i64 x.he, .int .i64 x.co, .int .i64 x.ga] 34)).heap.size (w.alloc (.cells #[.string ⟨x.id.toArray⟩, .int .i64 x.tr, .int .i64 x.he, .int .i64 x.co, .int .i64 x.ga] 34)) (w.alloc (.cells #[.string ⟨x.id.toArray⟩, .int .i64 x.tr, .int .i64 x.he, .int .i64 x.co, .int .i64 x.ga] 34))) := Lib.hid (Below.refl _ _)
      go_enter Try.func39, Try.ntmps39
      go_wp2_with fail
      refine O.out.mono ?_
      rintro e w' ⟨rfl, rfl⟩
      go_wp2_with fail
      refine (S1.out _).mono ?_
      rintro e w' ⟨rfl, rfl⟩
      go_wp2_with fail
      refine (S.out _).mono ?_
      rintro e w' ⟨rfl, rfl⟩
      go_wp2_with fail
      go_loopw [8] (fun sn wr => ∃ z : Int, -1 ≤ z ∧ z ≤ x.tr ∧ sn = .int .i64 z ∧ Hid (Fo.mfO x s l = Fo.tz (Fo.mfP x s l) z) ∧ Hid (Below (w.alloc (.cells #[.string ⟨x.id.toArray⟩, .int .i64 x.tr, .int .i64 x.he, .int .i64 x.co, .int .i64 x.ga] 34)).heap.size (w.alloc (.cells #[.string ⟨x.id.toArray⟩, .int .i64 x.tr, .int .i64 x.he, .int .i64 x.co, .int .i64 x.ga] 34)) wr)) (fun sn _ => (intOf sn + 1).toNat)
      case atStart => exact ⟨x.tr, by omega, by omega, rfl, Z, K0⟩
      case round =>
        obtain ⟨z, z1, z2, rfl, hz, hb⟩ := hrel
        by_cases h0 : 0 ≤ z
        · have G := Lib.hid (fun W => l10Fell_any x z W hf.out h0 z2)
          have P := Lib.hid (fun W => l10Prot_b (Fo.fe x z) W.heap.size 0 s (boxStd W (Fo.fe x z) 34) (boxStd_cells W (Fo.fe x z) 34) (Fo.fe_fits hf.out h0 z2) h1 h2)
          have hY := Lib.hid (fun h : l ≤ Fo.pr (Fo.fe x z) s => hz.out.trans (Fo.tz_yes h0 (by rw [Fo.mfP_z h0]; exact decide_eq_true h)))
          have hN := Lib.hid (fun h : ¬ l ≤ Fo.pr (Fo.fe x z) s => hz.out.trans (Fo.tz_no h0 (by rw [Fo.mfP_z h0]; exact decide_eq_false h)))
          obtain ⟨c0, c1, c2, c3, c4⟩ := (K.out wr hb.out).zero
          clear hz
          generalize Fo.fe x z = y at *
          by_cases ht : l ≤ Fo.pr y s
          · have hR := Lib.hid (hY.out ht)
            clear hY hN
            generalize Fo.pr y s = p at *
            go_wp2_with fail
            refine (G.out _).mono ?_
            rintro e w2 ⟨rfl, b2⟩
            have B2 := Lib.hid (bt hb.out b2)
            clear b2 c0 c1 c2 c3 c4
            go_wp2_with fail
            refine (P.out w2).mono ?_
            rintro e w3 ⟨rfl, b3⟩
            have B3 := Lib.hid (bt B.out (bt B2.out (bt (boxStd_below w2 y 34) b3)))
            clear b3
            go_wp2_with fail
            go_ret2
            exact ⟨by rw [hR.out, Fo.oV_some h0]; rfl, B3.out⟩
          · have hR := Lib.hid (hN.out ht)
            clear hY hN
            generalize Fo.pr y s = p at *
            go_wp2_with fail
            refine (G.out _).mono ?_
            rintro e w2 ⟨rfl, b2⟩
            have B2 := Lib.hid (bt hb.out b2)
            clear b2 c0 c1 c2 c3 c4
            go_wp2_with fail
            refine (P.out w2).mono ?_
            rintro e w3 ⟨rfl, b3⟩
            have B3 := Lib.hid (bt B2.out (bt (boxStd_below w2 y 34) b3))
            clear b3
            go_wp2_with fail
            exact ⟨⟨z - 1, by omega, by omega, rfl, hR, B3⟩, by simp only [intOf]; omega⟩
        · have hR : Hid (Fo.mfO x s l = none) := Lib.hid (by rw [hz.out]; exact Fo.tz_neg (by omega))
          have B2 := Lib.hid (bt B.out hb.out)
          clear hz
          go_wp2_with fail
          go_ret2
          exact ⟨by rw [hR.out]; rfl, B2.out⟩
/-- the world with a stand and a demand in new blocks -/
def boxSD (w : World) (x : Std) (s l : Int) (t u : TypeId) : World := (boxStd w x t).alloc (.cells #[.int .i64 s, .int .i64 l] u)
theorem boxSD_below (w : World) (x : Std) (s l : Int) (t u : TypeId) : Below w.heap.size w (boxSD w x s l t u) := (boxStd_below w x t).alloc (by rw [boxStd_size]; omega) _
theorem boxSD_kept {w W : World} {x : Std} {s l : Int} {t u : TypeId} (h : Below (boxSD w x s l t u).heap.size (boxSD w x s l t u) W) :
    SnCells W w.heap.size 0 x ∧ W.cell? ⟨w.heap.size + 1, 0, none⟩ = some (.int .i64 s) ∧ W.cell? ⟨w.heap.size + 1, 1, none⟩ = some (.int .i64 l) := by
  have h1 : Below (boxStd w x t).heap.size (boxStd w x t) (boxSD w x s l t u) := (Below.refl _ _).alloc (Nat.le_refl _) _
  have h2 := ((Whole.new (boxStd w x t) u #[.int .i64 s, .int .i64 l]).all h).at_ 0
  have h3 := ((Whole.new (boxStd w x t) u #[.int .i64 s, .int .i64 l]).all h).at_ 1
  rw [boxStd_size] at h2 h3
  exact ⟨boxStd_kept (bt h1 h), h2, h3⟩
set_option maxHeartbeats 1600000 in
theorem mostFelled1_any (x : Std) (s l z : Int) (bx bd : Nat) (w : World) (hc : SnCells w bx 0 x) (hs : w.cell? ⟨bd, 0, none⟩ = some (.int .i64 s)) (hl : w.cell? ⟨bd, 1, none⟩ = some (.int .i64 l)) (hf : Fo.Fits x) (h1 : 0 ≤ s) (h2 : s ≤ 2000) (h3 : 0 ≤ z) (h4 : z ≤ x.tr) :
    Calls Try.prog 71 #[.int .i64 z, .pointer (some ⟨bd, 0, none⟩), .pointer (some ⟨bx, 0, none⟩)] w fun e w' => e = .returned (.bool (!Fo.met s l (Fo.fe x z))) ∧ Below w.heap.size w w' := by
  have G := Lib.hid (fun W => felled_any x z W hf h3 h4)
  have M := Lib.hid (fun W => isMetBy_any s l (Fo.fe x z) W (Fo.fe_fits hf h3 h4) h1 h2)
  have hbx := World.block_lt_of_cell? w _ hc.c0
  have hbd := World.block_lt_of_cell? w _ hs
  have KC := Lib.hid (fun W (hb : Below w.heap.size w W) => (hc.below hb hbx).zero)
  have KD := Lib.hid (fun W (hb : Below w.heap.size w W) => (⟨(hb.cell (p := ⟨bd, 0, none⟩) hbd).trans hs, (hb.cell (p := ⟨bd, 1, none⟩) hbd).trans hl⟩ : W.cell? ⟨bd, 0, none⟩ = some (.int .i64 s) ∧ W.cell? ⟨bd, 1, none⟩ = some (.int .i64 l)))
  obtain ⟨c0, c1, c2, c3, c4⟩ := hc.zero
  clear hf hc
  generalize Fo.fe x z = y at *
  generalize Fo.met s l y = p at *
  go_enter Try.func71, Try.ntmps71
  go_wp2_with fail
  go_region_held3 (fun w' => w'.cell? ⟨bx, 0, none⟩ = some (.string ⟨x.id.toArray⟩) ∧ w'.cell? ⟨bx, 1, none⟩ = some (.int .i64 x.tr) ∧ w'.cell? ⟨bx, 2, none⟩ = some (.int .i64 x.he) ∧ w'.cell? ⟨bx, 3, none⟩ = some (.int .i64 x.co) ∧ w'.cell? ⟨bx, 4, none⟩ = some (.int .i64 x.ga) ∧ w'.cell? ⟨bd, 0, none⟩ = some (.int .i64 s) ∧ w'.cell? ⟨bd, 1, none⟩ = some (.int .i64 l)) (go_keep)
    (first
      | (go_at_call 70; refine (G.out _).mono ?_; rintro e wA ⟨rfl, bA⟩; have bA0 := bt (below_drewW _ 1) bA; obtain ⟨y0, y1, y2, y3, y4⟩ := KC.out wA bA0; obtain ⟨y5, y6⟩ := KD.out wA bA0)
      | (go_at_call 59; refine (M.out _).mono ?_; rintro e wB ⟨rfl, bB⟩; have bB0 := bt bA0 bB; obtain ⟨z0, z1, z2, z3, z4⟩ := KC.out wB bB0; obtain ⟨z5, z6⟩ := KD.out wB bB0))
  all_goals (
    go_wp2_with fail
    go_ret
    exact ⟨rfl, bB0⟩)
set_option maxHeartbeats 3200000 in
theorem implMostFelled_any (x : Std) (s l : Int) (w : World) (hx : x.id.length ≤ 1048576) :
    Calls Try.prog 40 #[.agg #[.string ⟨x.id.toArray⟩, .int .i64 x.tr, .int .i64 x.he, .int .i64 x.co, .int .i64 x.ga], .int .i64 s, .int .i64 l] w fun e w' => e = .returned (.tuple #[.int .i64 (Fo.mfV x s l), .int .i64 (Fo.mfC x s l)]) ∧ Below w.heap.size w w' := by
  have D := Lib.hid (fun W => demandStated_any s l W)
  have C := Lib.hid (fun W => standCode_any x (Fo.lim s l) W hx)
  have B := Lib.hid (boxSD_below w x s l 34 69)
  have K := Lib.hid (fun W (hb : Below (boxSD w x s l 34 69).heap.size (boxSD w x s l 34 69) W) => boxSD_kept hb)
  have eg := enters_of Try.func71 (by kernel_rfl) rfl
  have Q := Lib.hid (fun (hf : Fo.Fits x) (h1 : 0 ≤ s) (h2 : s ≤ 2000) W (hw : Below (boxSD w x s l 34 69).heap.size (boxSD w x s l 34 69) W) => by
    have q := mostBefore_any 71 #[.pointer (some ⟨w.heap.size + 1, 0, none⟩), .pointer (some ⟨w.heap.size, 0, none⟩)] eg x.tr.toNat (Fo.mfP x s l) W (by have := hf.t2; omega)
      (fun W2 i hb hi => mostFelled1_any x s l (i : Int) w.heap.size (w.heap.size + 1) W2 (boxSD_kept (bt hw hb)).1 (boxSD_kept (bt hw hb)).2.1 (boxSD_kept (bt hw hb)).2.2 hf h1 h2 (by omega) (by have := hf.t1; omega))
      (fun a b hab _ h => Fo.mfP_down hf hab h)
    rw [Int.toNat_of_nonneg hf.t1] at q
    exact q)
  have F : Hid (Fo.ok1 x = true → Fo.Fits x) := Lib.hid Fo.ok1_fits
  have FL : Hid (Fo.lim s l = true → 0 ≤ s ∧ s ≤ 2000) := Lib.hid (fun h => (Fo.lim_of h).1)
  have E : Hid (Fo.tp (Fo.mfP x s l) x.tr.toNat = Fo.mfO x s l) := Lib.hid rfl
  simp only [E.out] at Q
  clear E
  unfold Fo.mfV Fo.mfC
  clear hx eg
  generalize Fo.mfO x s l = o at *
  generalize Fo.ok1 x = q at *
  unfold boxSD boxStd at B K Q
  cases hs : Fo.lim s l with
  | false =>
    rw [hs] at C D
    have hc : Hid ((Cd.cd q false 0 != 0) = true) := Lib.hid (by cases q <;> rfl)
    have hv : Hid (Cd.vl q false (Fo.oV o) = 0) := Lib.hid (by cases q <;> rfl)
    have hd : Hid (Cd.cd q false (Fo.oC o) = Cd.cd q false 0) := Lib.hid (by cases q <;> rfl)
    rw [hv.out, hd.out]
    clear hd
    generalize Cd.cd q false 0 = c at *
    have hc := hc.out
    clear hs hv F Q FL
    go_enter Try.func40, Try.ntmps40
    go_wp2_with fail
    go_region_held3 (fun w' => w'.cell? ⟨w.heap.size, 0, none⟩ = some (.string ⟨x.id.toArray⟩) ∧ w'.cell? ⟨w.heap.size, 1, none⟩ = some (.int .i64 x.tr) ∧ w'.cell? ⟨w.heap.size, 2, none⟩ = some (.int .i64 x.he) ∧ w'.cell? ⟨w.heap.size, 3, none⟩ = some (.int .i64 x.co) ∧ w'.cell? ⟨w.heap.size, 4, none⟩ = some (.int .i64 x.ga) ∧ w'.cell? ⟨w.heap.size + 1, 0, none⟩ = some (.int .i64 s) ∧ w'.cell? ⟨w.heap.size + 1, 1, none⟩ = some (.int .i64 l)) (go_keep)
      (first
        | (go_at_call 54; refine (D.out _).mono ?_; rintro e wA ⟨rfl, bA⟩; have bA0 := bt (below_drewW _ 1) bA; obtain ⟨yy, y5, y6⟩ := K.out wA bA0; obtain ⟨y0, y1, y2, y3, y4⟩ := yy.zero)
        | (go_at_call 53; refine (C.out _).mono ?_; rintro e wB ⟨rfl, bB⟩; have bB0 := bt bA0 bB; obtain ⟨zz, z5, z6⟩ := K.out wB bB0; obtain ⟨z0, z1, z2, z3, z4⟩ := zz.zero))
    all_goals (
      go_wp2_with fail
      go_ret2
      exact ⟨rfl, bt B.out bB0⟩)
  | true =>
    obtain ⟨h1, h2⟩ := FL.out hs
    rw [hs] at C D
    clear hs FL
    cases q with
    | false =>
      rw [Cd.vl_f, Cd.cd_f]
      simp only [Cd.cd_f] at C
      clear F Q h1 h2
      go_enter Try.func40, Try.ntmps40
      go_wp2_with fail
      go_region_held3 (fun w' => w'.cell? ⟨w.heap.size, 0, none⟩ = some (.string ⟨x.id.toArray⟩) ∧ w'.cell? ⟨w.heap.size, 1, none⟩ = some (.int .i64 x.tr) ∧ w'.cell? ⟨w.heap.size, 2, none⟩ = some (.int .i64 x.he) ∧ w'.cell? ⟨w.heap.size, 3, none⟩ = some (.int .i64 x.co) ∧ w'.cell? ⟨w.heap.size, 4, none⟩ = some (.int .i64 x.ga) ∧ w'.cell? ⟨w.heap.size + 1, 0, none⟩ = some (.int .i64 s) ∧ w'.cell? ⟨w.heap.size + 1, 1, none⟩ = some (.int .i64 l)) (go_keep)
      (first
        | (go_at_call 54; refine (D.out _).mono ?_; rintro e wA ⟨rfl, bA⟩; have bA0 := bt (below_drewW _ 1) bA; obtain ⟨yy, y5, y6⟩ := K.out wA bA0; obtain ⟨y0, y1, y2, y3, y4⟩ := yy.zero)
        | (go_at_call 53; refine (C.out _).mono ?_; rintro e wB ⟨rfl, bB⟩; have bB0 := bt bA0 bB; obtain ⟨zz, z5, z6⟩ := K.out wB bB0; obtain ⟨z0, z1, z2, z3, z4⟩ := zz.zero))
      all_goals (
        go_wp2_with fail
        go_ret2
        exact ⟨rfl, bt B.out bB0⟩)
    | true =>
      have Q := Lib.hid (Q.out (F.out rfl) h1 h2)
      rw [Cd.vl_t, Cd.cd_t]
      simp only [Cd.cd_t] at C
      clear F h1 h2
      go_enter Try.func40, Try.ntmps40
      go_wp2_with fail
      go_region_held3 (fun w' => w'.cell? ⟨w.heap.size, 0, none⟩ = some (.string ⟨x.id.toArray⟩) ∧ w'.cell? ⟨w.heap.size, 1, none⟩ = some (.int .i64 x.tr) ∧ w'.cell? ⟨w.heap.size, 2, none⟩ = some (.int .i64 x.he) ∧ w'.cell? ⟨w.heap.size, 3, none⟩ = some (.int .i64 x.co) ∧ w'.cell? ⟨w.heap.size, 4, none⟩ = some (.int .i64 x.ga) ∧ w'.cell? ⟨w.heap.size + 1, 0, none⟩ = some (.int .i64 s) ∧ w'.cell? ⟨w.heap.size + 1, 1, none⟩ = some (.int .i64 l)) (go_keep)
      (first
        | (go_at_call 54; refine (D.out _).mono ?_; rintro e wA ⟨rfl, bA⟩; have bA0 := bt (below_drewW _ 1) bA; obtain ⟨yy, y5, y6⟩ := K.out wA bA0; obtain ⟨y0, y1, y2, y3, y4⟩ := yy.zero)
        | (go_at_call 53; refine (C.out _).mono ?_; rintro e wB ⟨rfl, bB⟩; have bB0 := bt bA0 bB; obtain ⟨zz, z5, z6⟩ := K.out wB bB0; obtain ⟨z0, z1, z2, z3, z4⟩ := zz.zero))
      all_goals (
        have B2 := Lib.hid bB0
        clear bB0 bB bA bA0 y0 y1 y2 y3 y4
        go_wp2_with fail
        refine (Q.out _ B2.out).mono ?_
        rintro e wC ⟨rfl, bC⟩
        have B3 := Lib.hid (bt B.out (bt B2.out bC))
        clear bC
        go_wp2_with fail
        go_ret2
        exact ⟨rfl, B3.out⟩)
end Go.Proofs.Ytecobplmkdlagaa

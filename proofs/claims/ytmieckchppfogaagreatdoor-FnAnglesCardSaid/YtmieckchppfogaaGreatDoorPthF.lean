/-
  slices.IndexFunc, ContainsFunc, Equal and Clone at slices of PathPoint. No condition of its own.
-/
import Derived.Test.YtmieckchppfogaaGreatDoorPthL
import Derived.Laws.StructEq
import Derived.Laws.AppendOwn
import Derived.Laws.OwnMore
import Derived.Lib.SliceRun
import Derived.Shelf.Abstract
namespace Go.Proofs.YtmieckchppfogaaGreatDoor
open Go.RowKit Go.Shelf
set_option linter.unusedVariables false
set_option maxRecDepth 100000

/-- how a search for the first element of which q holds ends; I k: what holds of the world when k elements have been asked -/
def FoundPth (q : Nat → Bool) (n : Nat) (I : Nat → World → Prop) (e : Ending) (w' : World) : Prop :=
  (∃ k, k < n ∧ q k = true ∧ (∀ j, j < k → q j = false) ∧ e = .returned (.int .i64 (k : Int)) ∧ I (k + 1) w') ∨ ((∀ j, j < n → q j = false) ∧ e = .returned (.int .i64 (-1)) ∧ I n w')
set_option maxHeartbeats 2000000 in
theorem indexFuncPth_any (g : Nat) (lb : Array Value) (eg : ∀ args w, (callFunc g args).run Tryz.prog w = .ok (.enter g args) w) (I : Nat → World → Prop) (q : Nat → Bool) (w : World) (v : Value) (xs : List Pth) (hl : xs.length ≤ 1048576) (h0 : I 0 w) (hv0 : PpSl w v xs)
    (hv : ∀ k W, I k W → PpSl W v xs)
    (hc : ∀ k (hk : k < xs.length) W, I k W → Calls Tryz.prog g (#[.agg #[.int .i64 xs[k].di, .int .i64 xs[k].he]] ++ lb) W fun e w' => e = .returned (.bool (q k)) ∧ I (k + 1) w') :
    Calls Tryz.prog 75 #[v, .func (.func g) #[] lb] w (FoundPth q xs.length I) := by
  obtain ⟨a, cap, rfl⟩ := hv0.form
  have HV := Lib.hid hv
  have HC := Lib.hid hc
  have H0 := Lib.hid h0
  clear hv hc h0 hv0
  go_enter Tryz.func75, Tryz.ntmps75
  go_wp2
  go_loopw [5, 8] (fun _ s8 wr => ∃ k : Nat, k ≤ xs.length ∧ s8 = .int .i64 k ∧ Hid (I k wr) ∧ Hid (∀ j, j < k → q j = false)) (fun _ s8 _ => xs.length - (intOf s8).toNat)
  case atStart => exact ⟨0, Nat.zero_le _, rfl, H0, Lib.hid (fun j hj => absurd hj (Nat.not_lt_zero _))⟩
  case round =>
    obtain ⟨k, hk, rfl, hI, hp⟩ := hrel
    by_cases hlt : k < xs.length
    · have hltz : (k : Int) < (xs.length : Int) := by omega
      obtain ⟨b, off, cap1, hn, hbl, hcc⟩ := (HV.out k wr hI.out).at_ hlt
      simp only [Value.slice.injEq] at hn
      obtain ⟨rfl, -, rfl⟩ := hn
      obtain ⟨c0, c1⟩ := hcc k hlt
      have C := Lib.hid (HC.out k hlt wr hI.out)
      clear hcc
      cases hq : q k with
      | true =>
        have Q := Lib.hid hq
        rw [hq] at C
        clear hq
        go_wp2_with (go_at_fn g; refine C.out.mono ?_; rintro e w' ⟨rfl, hI'⟩)
        go_ret
        exact Or.inl ⟨k, hlt, Q.out, hp.out, rfl, hI'⟩
      | false =>
        have Q : Hid (∀ j, j < k + 1 → q j = false) := Lib.hid (fun j hj => by
          by_cases e : j = k
          · rw [e]; exact hq
          · exact hp.out j (by omega))
        rw [hq] at C
        clear hq
        go_wp2_with (go_at_fn g; refine C.out.mono ?_; rintro e w' ⟨rfl, hI'⟩; have HI := Lib.hid hI'; clear hI')
        exact ⟨⟨k + 1, by omega, by go_num, HI, Q⟩, by simp only [intOf]; omega⟩
    · have hltz : ¬ (k : Int) < (xs.length : Int) := by omega
      have hkn : k = xs.length := by omega
      have HP : Hid (∀ j, j < xs.length → q j = false) := Lib.hid (by rw [← hkn]; exact hp.out)
      have HI : Hid (I xs.length wr) := Lib.hid (by rw [← hkn]; exact hI.out)
      clear hkn hp hI
      go_wp2
      go_ret
      exact Or.inr ⟨HP.out, rfl, HI.out⟩
theorem any_ofPth {p : Pth → Bool} {xs : List Pth} {k : Nat} (hk : k < xs.length) (h : p xs[k] = true) : xs.any p = true := List.any_eq_true.2 ⟨_, List.getElem_mem hk, h⟩
theorem any_noPth {p : Pth → Bool} {xs : List Pth} (h : ∀ j (hj : j < xs.length), p xs[j] = false) : xs.any p = false := by
  rw [List.any_eq_false]
  intro x hx
  obtain ⟨j, hj, rfl⟩ := List.getElem_of_mem hx
  rw [h j hj]; decide
set_option maxHeartbeats 800000 in
theorem containsFuncPth_any (g : Nat) (lb : Array Value) (eg : ∀ args w, (callFunc g args).run Tryz.prog w = .ok (.enter g args) w) (p : Pth → Bool) (w : World) (v : Value) (xs : List Pth) (hl : xs.length ≤ 1048576) (hv : PpSl w v xs)
    (hc : ∀ x W, Below w.heap.size w W → Calls Tryz.prog g (#[.agg #[.int .i64 x.di, .int .i64 x.he]] ++ lb) W fun e w' => e = .returned (.bool (p x)) ∧ Below w.heap.size w w') :
    Calls Tryz.prog 55 #[v, .func (.func g) #[] lb] w fun e w' => e = .returned (.bool (xs.any p)) ∧ Below w.heap.size w w' := by
  have C := Lib.hid (indexFuncPth_any g lb eg (fun _ W => Below w.heap.size w W) (fun k => if h : k < xs.length then p xs[k] else false) w v xs hl (Below.refl _ _) hv (fun _ W hW => hv.below hW)
    (fun k hk W hW => by simp only [dif_pos hk]; exact hc _ W hW))
  clear hc hv
  go_enter Tryz.func55, Tryz.ntmps55
  go_wp2_with fail
  refine C.out.mono ?_
  rintro e w1 (⟨k, hk, h1, -, rfl, hb⟩ | ⟨h1, rfl, hb⟩)
  · have hq : Hid (xs.any p = true) := Lib.hid (any_ofPth hk (by simpa only [dif_pos hk] using h1))
    have HB := Lib.hid hb
    clear h1 hb
    go_wp2_with fail
    go_ret
    exact ⟨ret_bool (by rw [hq.out]), HB.out⟩
  · have hq : Hid (xs.any p = false) := Lib.hid (any_noPth (fun j hj => by have := h1 j hj; simpa only [dif_pos hj] using this))
    have HB := Lib.hid hb
    clear h1 hb
    go_wp2_with fail
    go_ret
    exact ⟨ret_bool (by rw [hq.out]), HB.out⟩
theorem fields_PathPoint : Tryz.prog.underlying 36 = some (.struct (Tryz.prog.fieldsOf 36)) := by kernel_rfl
theorem stood_PathPoint : Tryz.prog.stoodInHeld 36 = false := by kernel_rfl
theorem flist_PathPoint : (Tryz.prog.fieldsOf 36).toList.map (fun f => (f.name != "_", f.type, f.offset)) = [(true, 2, 0), (true, 2, 1)] := by kernel_rfl
/-- one field after the other -/
theorem eqFields_consPth (d : Nat) (xs ys : Array Value) (f : Field) (fs : List Field) (a b : Int) (W : World) (hn : (f.name != "_") = true) (hu : Tryz.prog.underlying f.type = some (.int .i64)) (h1 : (part f.type xs f.offset).run Tryz.prog W = .ok (.int .i64 a) W) (h2 : (part f.type ys f.offset).run Tryz.prog W = .ok (.int .i64 b) W) :
    (Op.eqFields (d + 1) xs ys (f :: fs)).run Tryz.prog W = if a = b then (Op.eqFields (d + 1) xs ys fs).run Tryz.prog W else .ok false W := by
  have hn' : f.name ≠ "_" := by simpa using hn
  have h3 := run_equalIn_int (P := Tryz.prog) W d f.type .i64 .i64 a b hu
  simp only [Op.eqFields, if_pos hn', Sem.run_bind, h1, h2, h3, Result.andThen_ok]
  by_cases h : a = b
  · subst h; simp
  · have : (a == b) = false := beq_eq_false_iff_ne.2 h
    simp [this, h]
theorem eqFields_nilPth (d : Nat) (xs ys : Array Value) (W : World) : (Op.eqFields d xs ys []).run Tryz.prog W = .ok true W := rfl
theorem partPth_0 (x : Pth) (W : World) : (part 2 #[.int .i64 x.di, .int .i64 x.he] 0).run Tryz.prog W = .ok (.int .i64 x.di) W := by kernel_rfl
theorem partPth_1 (x : Pth) (W : World) : (part 2 #[.int .i64 x.di, .int .i64 x.he] 1).run Tryz.prog W = .ok (.int .i64 x.he) W := by kernel_rfl
theorem part_atPth (x : Pth) (W : World) : ∀ (o : Nat) (z : Int), (Pp.lv x)[o]? = some z → (part 2 #[.int .i64 x.di, .int .i64 x.he] o).run Tryz.prog W = .ok (.int .i64 z) W := by
  intro o z h
  have ho : o < 2 := (List.getElem?_eq_some_iff.1 h).1
  have hc : o = 0 ∨ o = 1 := by omega
  rcases hc with rfl | rfl <;> simp only [Pp.lv, List.getElem?_cons_zero, List.getElem?_cons_succ, Option.some.injEq] at h <;> subst h
  · exact partPth_0 x W
  · exact partPth_1 x W
theorem dec_cons_tPth {a b : Int} {l m : List Int} (h : a = b) : (a :: l == b :: m) = (l == m) := by subst h; simp
theorem dec_cons_fPth {a b : Int} {l m : List Int} (h : ¬ a = b) : (a :: l == b :: m) = false := by rw [beq_eq_false_iff_ne]; intro e; exact h (List.cons.inj e).1
theorem eqFPth_any (d : Nat) (x y : Pth) (W : World) : ∀ (fs : List Field) (o : Nat) (m : List (Bool × TypeId × Nat)), fs.map (fun f => (f.name != "_", f.type, f.offset)) = m → m = (List.range (2 - o)).map (fun i => (true, 2, o + i)) → o ≤ 2 →
    (Op.eqFields (d + 1) #[.int .i64 x.di, .int .i64 x.he] #[.int .i64 y.di, .int .i64 y.he] fs).run Tryz.prog W = .ok ((Pp.lv x).drop o == (Pp.lv y).drop o) W
  | [], o, m, h, hm, ho => by
    have : o = 2 := by
      have := congrArg List.length (h.trans hm); simp at this; omega
    subst this
    rw [eqFields_nilPth]; rfl
  | f :: fs, o, m, h, hm, ho => by
    have hlt : o < 2 := by
      have := congrArg List.length (h.trans hm); simp at this; omega
    have hh := h.trans hm
    rw [show 2 - o = (2 - (o + 1)) + 1 by omega, List.range_succ_eq_map, List.map_cons, List.map_cons, List.map_map] at hh
    injection hh with h1 h2
    simp only [Nat.add_zero, Prod.mk.injEq] at h1
    obtain ⟨n1, n2, n3⟩ := h1
    have lx : o < (Pp.lv x).length := by rw [Pp.lv_length]; exact hlt
    have ly : o < (Pp.lv y).length := by rw [Pp.lv_length]; exact hlt
    have ih := eqFPth_any d x y W fs (o + 1) _ rfl (h2.trans (by
      refine List.map_congr_left (fun i _ => ?_)
      simp only [Function.comp, Nat.succ_eq_add_one]
      rw [show o + (i + 1) = o + 1 + i by omega])) (by omega)
    rw [eqFields_consPth d _ _ f fs (Pp.lv x)[o] (Pp.lv y)[o] W n1 (by rw [n2]; exact Tryz.underlying2) (by rw [n2, n3]; exact part_atPth x W o _ (List.getElem?_eq_getElem lx)) (by rw [n2, n3]; exact part_atPth y W o _ (List.getElem?_eq_getElem ly)), ih,
      List.drop_eq_getElem_cons lx, List.drop_eq_getElem_cons ly]
    by_cases he : (Pp.lv x)[o] = (Pp.lv y)[o]
    · rw [if_pos he]
      exact congrArg (fun b => Result.ok b W) (dec_cons_tPth he).symm
    · rw [if_neg he]
      exact congrArg (fun b => Result.ok b W) (dec_cons_fPth he).symm
theorem neq_PathPoint (x y : Pth) (W : World) : (binOp .neq 36 (.agg #[.int .i64 x.di, .int .i64 x.he]) (.agg #[.int .i64 y.di, .int .i64 y.he])).run Tryz.prog W = .ok (.bool (!Pp.eqL x y)) W := by
  have h := eqFPth_any 9998 x y W _ 0 _ rfl flist_PathPoint (by omega)
  have e : Pp.eqL x y = ((Pp.lv x).drop 0 == (Pp.lv y).drop 0) := rfl
  rw [run_neq_struct, show (10000 : Nat) = 9999 + 1 from rfl, run_equalIn_struct W 9999 _ _ _ fields_PathPoint stood_PathPoint, show (9999 : Nat) = 9998 + 1 from rfl, h, e]
  rfl
end Go.Proofs.YtmieckchppfogaaGreatDoor

/-
  slices.IndexFunc, ContainsFunc, Equal and Clone at slices of Stand. No condition of its own.
-/
import Derived.Test.YtaldmdammipfjaaStdL
import Derived.Laws.StructEq
import Derived.Laws.AppendOwn
import Derived.Laws.OwnMore
import Derived.Lib.SliceRun
import Derived.Shelf.Abstract
namespace Go.Proofs.Ytaldmdammipfjaa
open Go.RowKit Go.Shelf
set_option linter.unusedVariables false
set_option maxRecDepth 100000

/-- how a search for the first element of which q holds ends; I k: what holds of the world when k elements have been asked -/
def FoundStd (q : Nat → Bool) (n : Nat) (I : Nat → World → Prop) (e : Ending) (w' : World) : Prop :=
  (∃ k, k < n ∧ q k = true ∧ (∀ j, j < k → q j = false) ∧ e = .returned (.int .i64 (k : Int)) ∧ I (k + 1) w') ∨ ((∀ j, j < n → q j = false) ∧ e = .returned (.int .i64 (-1)) ∧ I n w')
set_option maxHeartbeats 2000000 in
theorem indexFuncStd_any (g : Nat) (lb : Array Value) (eg : ∀ args w, (callFunc g args).run Try.prog w = .ok (.enter g args) w) (I : Nat → World → Prop) (q : Nat → Bool) (w : World) (v : Value) (xs : List Std) (hl : xs.length ≤ 1048576) (h0 : I 0 w) (hv0 : SnSl w v xs)
    (hv : ∀ k W, I k W → SnSl W v xs)
    (hc : ∀ k (hk : k < xs.length) W, I k W → Calls Try.prog g (#[.agg #[.string ⟨xs[k].id.toArray⟩, .int .i64 xs[k].tr, .int .i64 xs[k].he, .int .i64 xs[k].co, .int .i64 xs[k].ga]] ++ lb) W fun e w' => e = .returned (.bool (q k)) ∧ I (k + 1) w') :
    Calls Try.prog 126 #[v, .func (.func g) #[] lb] w (FoundStd q xs.length I) := by
  obtain ⟨a, cap, rfl⟩ := hv0.form
  have HV := Lib.hid hv
  have HC := Lib.hid hc
  have H0 := Lib.hid h0
  clear hv hc h0 hv0
  go_enter Try.func126, Try.ntmps126
  go_wp2
  go_loopw [5, 8] (fun _ s8 wr => ∃ k : Nat, k ≤ xs.length ∧ s8 = .int .i64 k ∧ Hid (I k wr) ∧ Hid (∀ j, j < k → q j = false)) (fun _ s8 _ => xs.length - (intOf s8).toNat)
  case atStart => exact ⟨0, Nat.zero_le _, rfl, H0, Lib.hid (fun j hj => absurd hj (Nat.not_lt_zero _))⟩
  case round =>
    obtain ⟨k, hk, rfl, hI, hp⟩ := hrel
    by_cases hlt : k < xs.length
    · have hltz : (k : Int) < (xs.length : Int) := by omega
      obtain ⟨b, off, cap1, hn, hbl, hcc⟩ := (HV.out k wr hI.out).at_ hlt
      simp only [Value.slice.injEq] at hn
      obtain ⟨rfl, -, rfl⟩ := hn
      obtain ⟨c0, c1, c2, c3, c4⟩ := hcc k hlt
      have C := Lib.hid (HC.out k hlt wr hI.out)
      clear hcc
      cases hq : q k with
      | true =>
        have Q := Lib.hid hq
        rw [hq] at C
        clear hq
        go_wp2_with (go_at_fn g; refine C.out.mono ?_; rintro e w' ⟨rfl, hI'⟩)
        go_ret
        exact Or.inl ⟨k, hlt, Q.out, hp.out, rfl, hI'⟩
      | false =>
        have Q : Hid (∀ j, j < k + 1 → q j = false) := Lib.hid (fun j hj => by
          by_cases e : j = k
          · rw [e]; exact hq
          · exact hp.out j (by omega))
        rw [hq] at C
        clear hq
        go_wp2_with (go_at_fn g; refine C.out.mono ?_; rintro e w' ⟨rfl, hI'⟩; have HI := Lib.hid hI'; clear hI')
        exact ⟨⟨k + 1, by omega, by go_num, HI, Q⟩, by simp only [intOf]; omega⟩
    · have hltz : ¬ (k : Int) < (xs.length : Int) := by omega
      have hkn : k = xs.length := by omega
      have HP : Hid (∀ j, j < xs.length → q j = false) := Lib.hid (by rw [← hkn]; exact hp.out)
      have HI : Hid (I xs.length wr) := Lib.hid (by rw [← hkn]; exact hI.out)
      clear hkn hp hI
      go_wp2
      go_ret
      exact Or.inr ⟨HP.out, rfl, HI.out⟩
theorem any_ofStd {p : Std → Bool} {xs : List Std} {k : Nat} (hk : k < xs.length) (h : p xs[k] = true) : xs.any p = true := List.any_eq_true.2 ⟨_, List.getElem_mem hk, h⟩
theorem any_noStd {p : Std → Bool} {xs : List Std} (h : ∀ j (hj : j < xs.length), p xs[j] = false) : xs.any p = false := by
  rw [List.any_eq_false]
  intro x hx
  obtain ⟨j, hj, rfl⟩ := List.getElem_of_mem hx
  rw [h j hj]; decide
set_option maxHeartbeats 800000 in
theorem containsFuncStd_any (g : Nat) (lb : Array Value) (eg : ∀ args w, (callFunc g args).run Try.prog w = .ok (.enter g args) w) (p : Std → Bool) (w : World) (v : Value) (xs : List Std) (hl : xs.length ≤ 1048576) (hv : SnSl w v xs)
    (hc : ∀ x ∈ xs, ∀ W, Below w.heap.size w W → Calls Try.prog g (#[.agg #[.string ⟨x.id.toArray⟩, .int .i64 x.tr, .int .i64 x.he, .int .i64 x.co, .int .i64 x.ga]] ++ lb) W fun e w' => e = .returned (.bool (p x)) ∧ Below w.heap.size w w') :
    Calls Try.prog 114 #[v, .func (.func g) #[] lb] w fun e w' => e = .returned (.bool (xs.any p)) ∧ Below w.heap.size w w' := by
  have C := Lib.hid (indexFuncStd_any g lb eg (fun _ W => Below w.heap.size w W) (fun k => if h : k < xs.length then p xs[k] else false) w v xs hl (Below.refl _ _) hv (fun _ W hW => hv.below hW)
    (fun k hk W hW => by simp only [dif_pos hk]; exact hc _ (List.getElem_mem hk) W hW))
  clear hc hv
  go_enter Try.func114, Try.ntmps114
  go_wp2_with fail
  refine C.out.mono ?_
  rintro e w1 (⟨k, hk, h1, -, rfl, hb⟩ | ⟨h1, rfl, hb⟩)
  · have hq : Hid (xs.any p = true) := Lib.hid (any_ofStd hk (by simpa only [dif_pos hk] using h1))
    have HB := Lib.hid hb
    clear h1 hb
    go_wp2_with fail
    go_ret
    exact ⟨ret_bool (by rw [hq.out]), HB.out⟩
  · have hq : Hid (xs.any p = false) := Lib.hid (any_noStd (fun j hj => by have := h1 j hj; simpa only [dif_pos hj] using this))
    have HB := Lib.hid hb
    clear h1 hb
    go_wp2_with fail
    go_ret
    exact ⟨ret_bool (by rw [hq.out]), HB.out⟩
theorem fields_Stand : Try.prog.underlying 101 = some (.struct (Try.prog.fieldsOf 101)) := by kernel_rfl
theorem stood_Stand : Try.prog.stoodInHeld 101 = false := by kernel_rfl
theorem flist_Stand : (Try.prog.fieldsOf 101).toList.map (fun f => (f.name != "_", f.type, f.offset)) = [(true, 9, 0), (true, 2, 1), (true, 2, 2), (true, 2, 3), (true, 2, 4)] := by kernel_rfl
/-- one field after the other -/
theorem eqFields_consStd (d : Nat) (xs ys : Array Value) (f : Field) (fs : List Field) (u v : Value) (q : Bool) (W : World) (hn : (f.name != "_") = true) (h1 : (part f.type xs f.offset).run Try.prog W = .ok u W) (h2 : (part f.type ys f.offset).run Try.prog W = .ok v W)
    (h3 : (Op.equalIn (d + 1) f.type u v).run Try.prog W = .ok q W) : (Op.eqFields (d + 1) xs ys (f :: fs)).run Try.prog W = if q = true then (Op.eqFields (d + 1) xs ys fs).run Try.prog W else .ok false W := by
  have hn' : f.name ≠ "_" := by simpa using hn
  simp only [Op.eqFields, if_pos hn', Sem.run_bind, h1, h2, h3, Result.andThen_ok]
  cases q <;> simp
theorem eqFields_nilStd (d : Nat) (xs ys : Array Value) (W : World) : (Op.eqFields d xs ys []).run Try.prog W = .ok true W := rfl
theorem eqF_stepStd (d : Nat) (xs ys : Array Value) (fs : List Field) (t : TypeId) (o : Nat) (m : List (Bool × TypeId × Nat)) (u v : Value) (q r : Bool) (W : World) (h : fs.map (fun f => (f.name != "_", f.type, f.offset)) = (true, t, o) :: m)
    (h1 : (part t xs o).run Try.prog W = .ok u W) (h2 : (part t ys o).run Try.prog W = .ok v W) (h3 : (Op.equalIn (d + 1) t u v).run Try.prog W = .ok q W)
    (k : ∀ fs' : List Field, fs'.map (fun f => (f.name != "_", f.type, f.offset)) = m → (Op.eqFields (d + 1) xs ys fs').run Try.prog W = .ok r W) : (Op.eqFields (d + 1) xs ys fs).run Try.prog W = .ok (q && r) W := by
  cases fs with
  | nil => cases h
  | cons f fs =>
    rw [List.map_cons] at h
    injection h with e1 e2
    simp only [Prod.mk.injEq] at e1
    obtain ⟨n1, n2, n3⟩ := e1
    rw [eqFields_consStd d xs ys f fs u v q W n1 (by rw [n2, n3]; exact h1) (by rw [n2, n3]; exact h2) (by rw [n2]; exact h3), k fs e2]
    cases q <;> rfl
theorem eqF_endStd (d : Nat) (xs ys : Array Value) (fs : List Field) (W : World) (h : fs.map (fun f => (f.name != "_", f.type, f.offset)) = []) : (Op.eqFields d xs ys fs).run Try.prog W = .ok true W := by
  cases fs with
  | nil => rfl
  | cons f fs => cases h
theorem eqStr_list (a b : List UInt8) : ((⟨a.toArray⟩ : ByteArray).toList == (⟨b.toArray⟩ : ByteArray).toList) = (a == b) := by
  rw [ByteArray.toList_eq, ByteArray.toList_eq]
theorem partStd_0 (x : Std) (W : World) : (part 9 #[.string ⟨x.id.toArray⟩, .int .i64 x.tr, .int .i64 x.he, .int .i64 x.co, .int .i64 x.ga] 0).run Try.prog W = .ok (.string ⟨x.id.toArray⟩) W := by kernel_rfl
theorem partStd_1 (x : Std) (W : World) : (part 2 #[.string ⟨x.id.toArray⟩, .int .i64 x.tr, .int .i64 x.he, .int .i64 x.co, .int .i64 x.ga] 1).run Try.prog W = .ok (.int .i64 x.tr) W := by kernel_rfl
theorem partStd_2 (x : Std) (W : World) : (part 2 #[.string ⟨x.id.toArray⟩, .int .i64 x.tr, .int .i64 x.he, .int .i64 x.co, .int .i64 x.ga] 2).run Try.prog W = .ok (.int .i64 x.he) W := by kernel_rfl
theorem partStd_3 (x : Std) (W : World) : (part 2 #[.string ⟨x.id.toArray⟩, .int .i64 x.tr, .int .i64 x.he, .int .i64 x.co, .int .i64 x.ga] 3).run Try.prog W = .ok (.int .i64 x.co) W := by kernel_rfl
theorem partStd_4 (x : Std) (W : World) : (part 2 #[.string ⟨x.id.toArray⟩, .int .i64 x.tr, .int .i64 x.he, .int .i64 x.co, .int .i64 x.ga] 4).run Try.prog W = .ok (.int .i64 x.ga) W := by kernel_rfl
theorem eqL_andStd (x y : Std) : ((x.id == y.id) && (x.tr == y.tr) && (x.he == y.he) && (x.co == y.co) && (x.ga == y.ga)) = Sn.eqL x y := by
  unfold Sn.eqL
  rw [Bool.eq_iff_iff]
  cases x; cases y
  simp [and_assoc]
theorem eqFieldsStd_any (x y : Std) (W : World) : (Op.eqFields 9999 #[.string ⟨x.id.toArray⟩, .int .i64 x.tr, .int .i64 x.he, .int .i64 x.co, .int .i64 x.ga] #[.string ⟨y.id.toArray⟩, .int .i64 y.tr, .int .i64 y.he, .int .i64 y.co, .int .i64 y.ga] (Try.prog.fieldsOf 101).toList).run Try.prog W = .ok (Sn.eqL x y) W := by
  have e : ((x.id == y.id) && ((x.tr == y.tr) && ((x.he == y.he) && ((x.co == y.co) && ((x.ga == y.ga) && (true)))))) = Sn.eqL x y := by rw [← eqL_andStd]; simp [Bool.and_assoc]
  rw [← e]
  refine eqF_stepStd 9998 _ _ _ _ _ _ _ _ _ _ W flist_Stand (partStd_0 x W) (partStd_0 y W) ((run_equalIn_string W _ _ _ _ Try.underlying9).trans (by rw [eqStr_list])) (fun fs h => ?_)
  refine eqF_stepStd 9998 _ _ _ _ _ _ _ _ _ _ W h (partStd_1 x W) (partStd_1 y W) (run_equalIn_int W _ _ _ .i64 _ _ Try.underlying2) (fun fs h => ?_)
  refine eqF_stepStd 9998 _ _ _ _ _ _ _ _ _ _ W h (partStd_2 x W) (partStd_2 y W) (run_equalIn_int W _ _ _ .i64 _ _ Try.underlying2) (fun fs h => ?_)
  refine eqF_stepStd 9998 _ _ _ _ _ _ _ _ _ _ W h (partStd_3 x W) (partStd_3 y W) (run_equalIn_int W _ _ _ .i64 _ _ Try.underlying2) (fun fs h => ?_)
  refine eqF_stepStd 9998 _ _ _ _ _ _ _ _ _ _ W h (partStd_4 x W) (partStd_4 y W) (run_equalIn_int W _ _ _ .i64 _ _ Try.underlying2) (fun fs h => ?_)
  exact eqF_endStd _ _ _ _ W h
theorem eql_Stand (x y : Std) (W : World) : (binOp .eql 101 (.agg #[.string ⟨x.id.toArray⟩, .int .i64 x.tr, .int .i64 x.he, .int .i64 x.co, .int .i64 x.ga]) (.agg #[.string ⟨y.id.toArray⟩, .int .i64 y.tr, .int .i64 y.he, .int .i64 y.co, .int .i64 y.ga])).run Try.prog W = .ok (.bool (Sn.eqL x y)) W := by
  rw [run_eql_struct, show (10000 : Nat) = 9999 + 1 from rfl, run_equalIn_struct W 9999 _ _ _ fields_Stand stood_Stand, eqFieldsStd_any]
  rfl
theorem neq_Stand (x y : Std) (W : World) : (binOp .neq 101 (.agg #[.string ⟨x.id.toArray⟩, .int .i64 x.tr, .int .i64 x.he, .int .i64 x.co, .int .i64 x.ga]) (.agg #[.string ⟨y.id.toArray⟩, .int .i64 y.tr, .int .i64 y.he, .int .i64 y.co, .int .i64 y.ga])).run Try.prog W = .ok (.bool (!Sn.eqL x y)) W := by
  rw [run_neq_struct, show (10000 : Nat) = 9999 + 1 from rfl, run_equalIn_struct W 9999 _ _ _ fields_Stand stood_Stand, eqFieldsStd_any]
  rfl
end Go.Proofs.Ytaldmdammipfjaa

/-
  slices.IndexFunc and slices.ContainsFunc at int64, at a function value. No condition of its own.
-/
import Derived.Test.YtmidihmbehaegaaDoorGen
import Derived.StillTailTactics
import Derived.Shelf.Abstract
namespace Go.Proofs.YtmidihmbehaegaaDoor
open Go.RowKit Go.Shelf
set_option linter.unusedVariables false
set_option maxRecDepth 100000

def FoundI (q : Nat → Bool) (n : Nat) (I : Nat → World → Prop) (e : Ending) (w' : World) : Prop :=
  (∃ k, k < n ∧ q k = true ∧ (∀ j, j < k → q j = false) ∧ e = .returned (.int .i64 (k : Int)) ∧ I (k + 1) w') ∨ ((∀ j, j < n → q j = false) ∧ e = .returned (.int .i64 (-1)) ∧ I n w')
theorem Sl.atI {w : World} {v : Value} {zs : List Int} (h : Sl w v zs) {k : Nat} (hk : k < zs.length) :
    ∃ b off cap, v = .slice (some ⟨b, off, none⟩) zs.length cap ∧ b < w.heap.size ∧ ∀ j (hj : j < zs.length), w.cell? ⟨b, off + j, none⟩ = some (.int .i64 zs[j]) := by
  rcases h with ⟨rfl, _⟩ | ⟨b, off, cap, rfl, hlt, hc⟩
  · cases hk
  · exact ⟨b, off, cap, rfl, hlt, fun j hj => hc j _ (List.getElem?_eq_getElem hj)⟩
set_option maxHeartbeats 2000000 in
theorem indexFuncI_any (g : Nat) (lb : Array Value) (eg : ∀ args w, (callFunc g args).run Tryd.prog w = .ok (.enter g args) w) (I : Nat → World → Prop) (q : Nat → Bool) (w : World) (v : Value) (xs : List Int) (hl : xs.length ≤ 1048576) (h0 : I 0 w) (hv0 : Sl w v xs)
    (hv : ∀ k W, I k W → Sl W v xs)
    (hc : ∀ k (hk : k < xs.length) W, I k W → Calls Tryd.prog g (#[.int .i64 xs[k]] ++ lb) W fun e w' => e = .returned (.bool (q k)) ∧ I (k + 1) w') :
    Calls Tryd.prog 64 #[v, .func (.func g) #[] lb] w (FoundI q xs.length I) := by
  obtain ⟨a, cap, rfl⟩ := hv0.form
  have HV := Lib.hid hv
  have HC := Lib.hid hc
  have H0 := Lib.hid h0
  clear hv hc h0 hv0
  go_enter Tryd.func64, Tryd.ntmps64
  go_wp2
  go_loopw [5, 8] (fun _ s8 wr => ∃ k : Nat, k ≤ xs.length ∧ s8 = .int .i64 k ∧ Hid (I k wr) ∧ Hid (∀ j, j < k → q j = false)) (fun _ s8 _ => xs.length - (intOf s8).toNat)
  case atStart => exact ⟨0, Nat.zero_le _, rfl, H0, Lib.hid (fun j hj => absurd hj (Nat.not_lt_zero _))⟩
  case round =>
    obtain ⟨k, hk, rfl, hI, hp⟩ := hrel
    by_cases hlt : k < xs.length
    · have hltz : (k : Int) < (xs.length : Int) := by omega
      obtain ⟨b, off, cap1, hn, hbl, hcc⟩ := (HV.out k wr hI.out).atI hlt
      simp only [Value.slice.injEq] at hn
      obtain ⟨rfl, -, rfl⟩ := hn
      have c0 := hcc k hlt
      have C := Lib.hid (HC.out k hlt wr hI.out)
      clear hcc
      cases hq : q k with
      | true =>
        have Q := Lib.hid hq
        rw [hq] at C
        clear hq
        go_wp2_with (go_at_fn g; refine C.out.mono ?_; rintro e w' ⟨rfl, hI'⟩)
        go_ret
        exact Or.inl ⟨k, hlt, Q.out, hp.out, rfl, hI'⟩
      | false =>
        have Q : Hid (∀ j, j < k + 1 → q j = false) := Lib.hid (fun j hj => by
          by_cases e : j = k
          · rw [e]; exact hq
          · exact hp.out j (by omega))
        rw [hq] at C
        clear hq
        go_wp2_with (go_at_fn g; refine C.out.mono ?_; rintro e w' ⟨rfl, hI'⟩; have HI := Lib.hid hI'; clear hI')
        exact ⟨⟨k + 1, by omega, by go_num, HI, Q⟩, by simp only [intOf]; omega⟩
    · have hltz : ¬ (k : Int) < (xs.length : Int) := by omega
      have hkn : k = xs.length := by omega
      have HP : Hid (∀ j, j < xs.length → q j = false) := Lib.hid (by rw [← hkn]; exact hp.out)
      have HI : Hid (I xs.length wr) := Lib.hid (by rw [← hkn]; exact hI.out)
      clear hkn hp hI
      go_wp2
      go_ret
      exact Or.inr ⟨HP.out, rfl, HI.out⟩
theorem any_ofI {p : Int → Bool} {xs : List Int} {k : Nat} (hk : k < xs.length) (h : p xs[k] = true) : xs.any p = true := List.any_eq_true.2 ⟨_, List.getElem_mem hk, h⟩
theorem any_noI {p : Int → Bool} {xs : List Int} (h : ∀ j (hj : j < xs.length), p xs[j] = false) : xs.any p = false := by
  rw [List.any_eq_false]
  intro x hx
  obtain ⟨j, hj, rfl⟩ := List.getElem_of_mem hx
  rw [h j hj]; decide
set_option maxHeartbeats 800000 in
theorem containsFuncI_any (g : Nat) (lb : Array Value) (eg : ∀ args w, (callFunc g args).run Tryd.prog w = .ok (.enter g args) w) (p : Int → Bool) (w : World) (v : Value) (xs : List Int) (hl : xs.length ≤ 1048576) (hv : Sl w v xs)
    (hc : ∀ x W, Below w.heap.size w W → Calls Tryd.prog g (#[.int .i64 x] ++ lb) W fun e w' => e = .returned (.bool (p x)) ∧ Below w.heap.size w w') :
    Calls Tryd.prog 54 #[v, .func (.func g) #[] lb] w fun e w' => e = .returned (.bool (xs.any p)) ∧ Below w.heap.size w w' := by
  have C := Lib.hid (indexFuncI_any g lb eg (fun _ W => Below w.heap.size w W) (fun k => if h : k < xs.length then p xs[k] else false) w v xs hl (Below.refl _ _) hv (fun _ W hW => hv.below hW)
    (fun k hk W hW => by simp only [dif_pos hk]; exact hc _ W hW))
  clear hc hv
  go_enter Tryd.func54, Tryd.ntmps54
  go_wp2_with fail
  refine C.out.mono ?_
  rintro e w1 (⟨k, hk, h1, -, rfl, hb⟩ | ⟨h1, rfl, hb⟩)
  · have hq : Hid (xs.any p = true) := Lib.hid (any_ofI hk (by simpa only [dif_pos hk] using h1))
    have HB := Lib.hid hb
    clear h1 hb
    go_wp2_with fail
    go_ret
    exact ⟨ret_bool (by rw [hq.out]), HB.out⟩
  · have hq : Hid (xs.any p = false) := Lib.hid (any_noI (fun j hj => by have := h1 j hj; simpa only [dif_pos hj] using this))
    have HB := Lib.hid hb
    clear h1 hb
    go_wp2_with fail
    go_ret
    exact ⟨ret_bool (by rw [hq.out]), HB.out⟩
end Go.Proofs.YtmidihmbehaegaaDoor

/-
  Chapter 7 by the program: what a question tells beside a profile, each kind with its own limits. No condition of its own.
-/
import Derived.Test.YteikghppebiibaaStA
namespace Go.Proofs.Yteikghppebiibaa
open Go.RowKit Go.Shelf
set_option linter.unusedVariables false
set_option maxRecDepth 100000

set_option maxHeartbeats 800000 in
theorem slopeStated_any (ri ru : Int) (w : World) : Calls Try.prog 54 #[.agg #[.int .i64 ri, .int .i64 ru]] w fun e w' => e = .returned (.bool (Sb.slo ri ru)) ∧ Below w.heap.size w w' := by
  have C1 := Lib.hid (fun W => within_any ri 0 1000 W)
  have C2 := Lib.hid (fun W => within_any ru 1 1000 W)
  unfold Sb.slo
  generalize Ar.inB 1 ru 1000 = q at *
  generalize Ar.inB 0 ri 1000 = p at *
  cases p
  · go_enter Try.func54, Try.ntmps54
    go_wp2_with fail
    refine (C1.out _).mono ?_
    rintro e w' ⟨rfl, rfl⟩
    go_wp2_with fail
    go_ret
    exact ⟨rfl, (Below.refl _ _).alloc (Nat.le_refl _) _⟩
  · go_enter Try.func54, Try.ntmps54
    go_wp2_with fail
    refine (C1.out _).mono ?_
    rintro e w' ⟨rfl, rfl⟩
    go_wp2_with fail
    refine (C2.out _).mono ?_
    rintro e w' ⟨rfl, rfl⟩
    go_wp2_with fail
    go_ret
    exact ⟨ret_bool (by simp), (Below.refl _ _).alloc (Nat.le_refl _) _⟩
theorem withinDoubt_any (x l h : Int) (w : World) : Calls Try.prog 56 #[.int .i64 x, .int .i64 l, .int .i64 h] w fun e w' => e = .returned (.bool (Ar.inB l x h)) ∧ w = w' := by
  unfold Ar.inB
  by_cases h1 : l ≤ x
  · go_enter Try.func56, Try.ntmps56
    go_wp2
    go_ret
    exact ⟨ret_bool (by simp [h1]), rfl⟩
  · go_enter Try.func56, Try.ntmps56
    go_wp2
    go_ret
    exact ⟨ret_bool (by have e : decide (l ≤ x) = false := decide_eq_false (by omega); rw [e]; rfl), rfl⟩
theorem doubtStated_any (d : Int) (w : World) : Calls Try.prog 55 #[.int .i64 d] w fun e w' => e = .returned (.bool (Ar.inB 0 d 1000)) ∧ w = w' := by
  go_enter Try.func55, Try.ntmps55
  go_wp2_with (go_at_call 56; refine (withinDoubt_any _ _ _ _).mono ?_; rintro e w' ⟨rfl, rfl⟩)
  go_ret
  exact ⟨rfl, rfl⟩
theorem withinLimit_any (x l h : Int) (w : World) : Calls Try.prog 58 #[.int .i64 x, .int .i64 l, .int .i64 h] w fun e w' => e = .returned (.bool (Ar.inB l x h)) ∧ w = w' := by
  unfold Ar.inB
  by_cases h1 : l ≤ x
  · go_enter Try.func58, Try.ntmps58
    go_wp2
    go_ret
    exact ⟨ret_bool (by simp [h1]), rfl⟩
  · go_enter Try.func58, Try.ntmps58
    go_wp2
    go_ret
    exact ⟨ret_bool (by have e : decide (l ≤ x) = false := decide_eq_false (by omega); rw [e]; rfl), rfl⟩
theorem limitStated_any (t : Int) (w : World) : Calls Try.prog 57 #[.int .i64 t] w fun e w' => e = .returned (.bool (Sb.lim t)) ∧ w = w' := by
  go_enter Try.func57, Try.ntmps57
  go_wp2_with (go_at_call 58; refine (withinLimit_any _ _ _ _).mono ?_; rintro e w' ⟨rfl, rfl⟩)
  go_ret
  exact ⟨rfl, rfl⟩
set_option maxHeartbeats 800000 in
theorem isIndexL_any (k : Int) (a : Option Addr) (n cap : Nat) (w : World) (hn : n ≤ 1048576) : Calls Try.prog 61 #[.int .i64 k, .slice a n cap] w fun e w' => e = .returned (.bool (Ar.inB 0 k ((n : Int) - 1))) ∧ w = w' := by
  go_enter Try.func61, Try.ntmps61
  go_wp2_with (go_at_call 35; refine (within_any _ _ _ _).mono ?_; rintro e w' ⟨rfl, rfl⟩)
  go_ret
  exact ⟨rfl, rfl⟩
set_option maxHeartbeats 800000 in
theorem placeStated_any (k : Int) (a : Option Addr) (n cap : Nat) (w : World) (hn : n ≤ 1048576) : Calls Try.prog 60 #[.agg #[.slice a n cap, .int .i64 k]] w fun e w' => e = .returned (.bool (Ar.inB 0 k ((n : Int) - 1))) ∧ Below w.heap.size w w' := by
  have C := Lib.hid (fun W => isIndexL_any k a n cap W hn)
  go_enter Try.func60, Try.ntmps60
  go_wp2_with fail
  refine (C.out _).mono ?_
  rintro e w' ⟨rfl, rfl⟩
  go_wp2_with fail
  go_ret
  exact ⟨rfl, (Below.refl _ _).alloc (Nat.le_refl _) _⟩
set_option maxHeartbeats 800000 in
theorem lit_slope (ri ru : Int) (w : World) : Calls Try.prog 32 #[.iface 38 (.agg #[.int .i64 ri, .int .i64 ru])] w fun e w' => e = .returned (.bool (!Sb.slo ri ru)) ∧ Below w.heap.size w w' := by
  have hm : ∀ w : World, (method 191 38 (.agg #[.int .i64 ri, .int .i64 ru]) "loop.example/g01013/impl.isStated").run Try.prog w = .ok (54, .agg #[.int .i64 ri, .int .i64 ru]) w := fun _ => by kernel_rfl
  have C := Lib.hid (fun W => slopeStated_any ri ru W)
  generalize Sb.slo ri ru = q at *
  go_enter Try.func32, Try.ntmps32
  go_wp2_with fail
  refine (C.out _).mono ?_
  rintro e w1 ⟨rfl, b1⟩
  go_wp2_with fail
  go_ret
  exact ⟨rfl, b1⟩
set_option maxHeartbeats 800000 in
theorem lit_doubt (d : Int) (w : World) : Calls Try.prog 32 #[.iface 39 (.int .i64 d)] w fun e w' => e = .returned (.bool (!Ar.inB 0 d 1000)) ∧ Below w.heap.size w w' := by
  have hm : ∀ w : World, (method 191 39 (.int .i64 d) "loop.example/g01013/impl.isStated").run Try.prog w = .ok (55, .int .i64 d) w := fun _ => by kernel_rfl
  have C := Lib.hid (fun W => doubtStated_any d W)
  generalize Ar.inB 0 d 1000 = q at *
  go_enter Try.func32, Try.ntmps32
  go_wp2_with fail
  refine (C.out _).mono ?_
  rintro e w1 ⟨rfl, rfl⟩
  go_wp2_with fail
  go_ret
  exact ⟨rfl, Below.refl _ _⟩
set_option maxHeartbeats 800000 in
theorem lit_limit (t : Int) (w : World) : Calls Try.prog 32 #[.iface 40 (.int .i64 t)] w fun e w' => e = .returned (.bool (!Sb.lim t)) ∧ Below w.heap.size w w' := by
  have hm : ∀ w : World, (method 191 40 (.int .i64 t) "loop.example/g01013/impl.isStated").run Try.prog w = .ok (57, .int .i64 t) w := fun _ => by kernel_rfl
  have C := Lib.hid (fun W => limitStated_any t W)
  generalize Sb.lim t = q at *
  go_enter Try.func32, Try.ntmps32
  go_wp2_with fail
  refine (C.out _).mono ?_
  rintro e w1 ⟨rfl, rfl⟩
  go_wp2_with fail
  go_ret
  exact ⟨rfl, Below.refl _ _⟩
set_option maxHeartbeats 800000 in
theorem lit_place (k : Int) (a : Option Addr) (n cap : Nat) (w : World) (hn : n ≤ 1048576) : Calls Try.prog 32 #[.iface 45 (.agg #[.slice a n cap, .int .i64 k])] w fun e w' => e = .returned (.bool (!Ar.inB 0 k ((n : Int) - 1))) ∧ Below w.heap.size w w' := by
  have hm : ∀ w : World, (method 191 45 (.agg #[.slice a n cap, .int .i64 k]) "loop.example/g01013/impl.isStated").run Try.prog w = .ok (60, .agg #[.slice a n cap, .int .i64 k]) w := fun _ => by kernel_rfl
  have C := Lib.hid (fun W => placeStated_any k a n cap W hn)
  generalize Ar.inB 0 k ((n : Int) - 1) = q at *
  go_enter Try.func32, Try.ntmps32
  go_wp2_with fail
  refine (C.out _).mono ?_
  rintro e w1 ⟨rfl, b1⟩
  go_wp2_with fail
  go_ret
  exact ⟨rfl, b1⟩
/-- a value of which a question asks whether it is as stated, and what it answers -/
def StV (u : Value) (b : Bool) : Prop := ∀ W : World, Calls Try.prog 32 #[u] W fun e w' => e = .returned (.bool (!b)) ∧ Below W.heap.size W w'
/-- a row of such values at an address, and what they answer -/
def StS (w : World) (v : Value) (us : List (Value × Bool)) : Prop :=
  (us = [] ∧ ∃ a cap, v = .slice a 0 cap) ∨ ∃ b off cap, v = .slice (some ⟨b, off, none⟩) us.length cap ∧ b < w.heap.size ∧ ∀ j (hj : j < us.length), w.cell? ⟨b, off + j, none⟩ = some us[j].1 ∧ StV us[j].1 us[j].2
theorem StS.below {w w1 : World} {v : Value} {us : List (Value × Bool)} (h : StS w v us) (hb : Below w.heap.size w w1) : StS w1 v us := by
  rcases h with h | ⟨b, off, cap, rfl, hlt, hc⟩
  · exact Or.inl h
  · exact Or.inr ⟨b, off, cap, rfl, Nat.lt_of_lt_of_le hlt hb.size, fun j hj => ⟨(hb.cell (p := ⟨b, off + j, none⟩) hlt).trans (hc j hj).1, (hc j hj).2⟩⟩
theorem StS.form {w : World} {v : Value} {us : List (Value × Bool)} (h : StS w v us) : ∃ a cap, v = .slice a us.length cap := by
  rcases h with ⟨rfl, a, cap, rfl⟩ | ⟨b, off, cap, rfl, _⟩ <;> exact ⟨_, _, rfl⟩
def nth2 (us : List (Value × Bool)) (k : Nat) : Bool := match us[k]? with | some x => x.2 | none => true
theorem nth2_at {us : List (Value × Bool)} {k : Nat} (h : k < us.length) : nth2 us k = us[k].2 := by unfold nth2; rw [List.getElem?_eq_getElem h]
set_option maxHeartbeats 2000000 in
theorem indexFuncS_any (w : World) (v : Value) (us : List (Value × Bool)) (hl : us.length ≤ 1048576) (hv0 : StS w v us) :
    Calls Try.prog 36 #[v, .func (.func 32) #[] #[]] w (Found (fun k => !nth2 us k) us.length (fun _ W => Below w.heap.size w W)) := by
  have eg : ∀ args w, (callFunc 32 args).run Try.prog w = .ok (.enter 32 args) w := enters_of Try.func32 (by kernel_rfl) rfl
  obtain ⟨a, cap, rfl⟩ := hv0.form
  have HV := Lib.hid hv0
  clear hv0
  go_enter Try.func36, Try.ntmps36
  go_wp2
  go_loopw [5, 8] (fun _ s8 wr => ∃ k : Nat, k ≤ us.length ∧ s8 = .int .i64 k ∧ Hid (Below w.heap.size w wr) ∧ Hid (∀ j, j < k → (!nth2 us j) = false)) (fun _ s8 _ => us.length - (intOf s8).toNat)
  case atStart => exact ⟨0, Nat.zero_le _, rfl, Lib.hid (Below.refl _ _), Lib.hid (fun j hj => absurd hj (Nat.not_lt_zero _))⟩
  case round =>
    obtain ⟨k, hk, rfl, hI, hp⟩ := hrel
    by_cases hlt : k < us.length
    · have hltz : (k : Int) < (us.length : Int) := by omega
      rcases HV.out.below hI.out with ⟨h0, -⟩ | ⟨b, off, cap1, hn, hbl, hcc⟩
      · subst h0; cases hlt
      simp only [Value.slice.injEq] at hn
      obtain ⟨rfl, -, rfl⟩ := hn
      obtain ⟨c0, hs⟩ := hcc k hlt
      have C := Lib.hid (hs wr)
      have hq := Lib.hid (nth2_at hlt)
      clear hcc hs
      generalize us[k].1 = u at *
      cases hq2 : us[k].2 with
      | false =>
        have Q : Hid ((!nth2 us k) = true) := Lib.hid (by rw [hq.out, hq2]; rfl)
        rw [hq2] at C
        clear hq2 hq
        go_wp2_with (go_at_fn 32; refine C.out.mono ?_; rintro e w' ⟨rfl, b'⟩; have B' := Lib.hid (bt hI.out b'); clear b')
        go_ret
        exact Or.inl ⟨k, hlt, Q.out, hp.out, rfl, B'.out⟩
      | true =>
        have Q : Hid (∀ j, j < k + 1 → (!nth2 us j) = false) := Lib.hid (fun j hj => by
          by_cases e : j = k
          · rw [e, hq.out, hq2]; rfl
          · exact hp.out j (by omega))
        rw [hq2] at C
        clear hq2 hq
        go_wp2_with (go_at_fn 32; refine C.out.mono ?_; rintro e w' ⟨rfl, b'⟩; have B' := Lib.hid (bt hI.out b'); clear b')
        exact ⟨⟨k + 1, by omega, by go_num, B', Q⟩, by simp only [intOf]; omega⟩
    · have hltz : ¬ (k : Int) < (us.length : Int) := by omega
      have hkn : k = us.length := by omega
      have HP : Hid (∀ j, j < us.length → (!nth2 us j) = false) := Lib.hid (by rw [← hkn]; exact hp.out)
      clear hkn hp
      go_wp2
      go_ret
      exact Or.inr ⟨HP.out, rfl, hI.out⟩
def allS (us : List (Value × Bool)) : Bool := us.all fun x => x.2
theorem allS_no {us : List (Value × Bool)} {k : Nat} (hk : k < us.length) (h : (!nth2 us k) = true) : allS us = false := by
  unfold allS
  rw [nth2_at hk] at h
  rw [List.all_eq_false]
  exact ⟨_, List.getElem_mem hk, by cases hb : us[k].2 <;> simp_all⟩
theorem allS_yes {us : List (Value × Bool)} (h : ∀ j, j < us.length → (!nth2 us j) = false) : allS us = true := by
  unfold allS
  rw [List.all_eq_true]
  intro x hx
  obtain ⟨j, hj, rfl⟩ := List.getElem_of_mem hx
  have := h j hj
  rw [nth2_at hj] at this
  cases hb : us[j].2 <;> simp_all
set_option maxHeartbeats 800000 in
theorem containsFuncS_any (w : World) (v : Value) (us : List (Value × Bool)) (hl : us.length ≤ 1048576) (hv0 : StS w v us) :
    Calls Try.prog 31 #[v, .func (.func 32) #[] #[]] w fun e w' => e = .returned (.bool (!allS us)) ∧ Below w.heap.size w w' := by
  have C := Lib.hid (indexFuncS_any w v us hl hv0)
  clear hv0
  go_enter Try.func31, Try.ntmps31
  go_wp2_with fail
  refine C.out.mono ?_
  rintro e w1 (⟨k, hk, h1, -, rfl, hb⟩ | ⟨h1, rfl, hb⟩)
  · have hq := Lib.hid (allS_no hk h1)
    have HB := Lib.hid hb
    clear h1 hb
    go_wp2_with fail
    go_ret
    exact ⟨ret_bool (by rw [hq.out]; simp), HB.out⟩
  · have hq := Lib.hid (allS_yes h1)
    have HB := Lib.hid hb
    clear h1 hb
    go_wp2_with fail
    go_ret
    exact ⟨ret_bool (by rw [hq.out]; simp), HB.out⟩
set_option maxHeartbeats 800000 in
theorem areStated_any (w : World) (v : Value) (us : List (Value × Bool)) (hl : us.length ≤ 1048576) (hv0 : StS w v us) :
    Calls Try.prog 23 #[v] w fun e w' => e = .returned (.bool (allS us)) ∧ Below w.heap.size w w' := by
  have C := Lib.hid (containsFuncS_any w v us hl hv0)
  generalize allS us = q at *
  clear hv0
  go_enter Try.func23, Try.ntmps23
  go_wp2_with fail
  refine C.out.mono ?_
  rintro e w1 ⟨rfl, b1⟩
  have B1 := Lib.hid b1
  clear b1
  cases q <;> (
    go_wp2_with fail
    go_ret
    exact ⟨rfl, B1.out⟩)
end Go.Proofs.Yteikghppebiibaa

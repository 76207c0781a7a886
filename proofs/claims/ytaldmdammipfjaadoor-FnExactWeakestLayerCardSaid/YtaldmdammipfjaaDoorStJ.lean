/-
  Chapter 7 by the program: what a question tells beside a profile, each kind with its own limits. No condition of its own.
-/
import Derived.Test.YtaldmdammipfjaaDoorStA
namespace Go.Proofs.YtaldmdammipfjaaDoor
open Go.RowKit Go.Shelf
set_option linter.unusedVariables false
set_option maxRecDepth 100000

set_option maxHeartbeats 800000 in
theorem slopeStated_any (ri ru : Int) (w : World) : Calls Tryd.prog 213 #[.agg #[.int .i64 ri, .int .i64 ru]] w fun e w' => e = .returned (.bool (Sb.slo ri ru)) ∧ Below w.heap.size w w' := by
  have C1 := Lib.hid (fun W => within_any ri 0 1000 W)
  have C2 := Lib.hid (fun W => within_any ru 1 1000 W)
  unfold Sb.slo
  generalize Ar.inB 1 ru 1000 = q at *
  generalize Ar.inB 0 ri 1000 = p at *
  cases p
  · go_enter Tryd.func213, Tryd.ntmps213
    go_wp2_with fail
    refine (C1.out _).mono ?_
    rintro e w' ⟨rfl, rfl⟩
    go_wp2_with fail
    go_ret
    exact ⟨rfl, (Below.refl _ _).alloc (Nat.le_refl _) _⟩
  · go_enter Tryd.func213, Tryd.ntmps213
    go_wp2_with fail
    refine (C1.out _).mono ?_
    rintro e w' ⟨rfl, rfl⟩
    go_wp2_with fail
    refine (C2.out _).mono ?_
    rintro e w' ⟨rfl, rfl⟩
    go_wp2_with fail
    go_ret
    exact ⟨ret_bool (by simp), (Below.refl _ _).alloc (Nat.le_refl _) _⟩
theorem withinDoubt_any (x l h : Int) (w : World) : Calls Tryd.prog 215 #[.int .i64 x, .int .i64 l, .int .i64 h] w fun e w' => e = .returned (.bool (Ar.inB l x h)) ∧ w = w' := by
  unfold Ar.inB
  by_cases h1 : l ≤ x
  · go_enter Tryd.func215, Tryd.ntmps215
    go_wp2
    go_ret
    exact ⟨ret_bool (by simp [h1]), rfl⟩
  · go_enter Tryd.func215, Tryd.ntmps215
    go_wp2
    go_ret
    exact ⟨ret_bool (by have e : decide (l ≤ x) = false := decide_eq_false (by omega); rw [e]; rfl), rfl⟩
theorem doubtStated_any (d : Int) (w : World) : Calls Tryd.prog 214 #[.int .i64 d] w fun e w' => e = .returned (.bool (Ar.inB 0 d 1000)) ∧ w = w' := by
  go_enter Tryd.func214, Tryd.ntmps214
  go_wp2_with (go_at_call 215; refine (withinDoubt_any _ _ _ _).mono ?_; rintro e w' ⟨rfl, rfl⟩)
  go_ret
  exact ⟨rfl, rfl⟩
theorem withinLimit_any (x l h : Int) (w : World) : Calls Tryd.prog 217 #[.int .i64 x, .int .i64 l, .int .i64 h] w fun e w' => e = .returned (.bool (Ar.inB l x h)) ∧ w = w' := by
  unfold Ar.inB
  by_cases h1 : l ≤ x
  · go_enter Tryd.func217, Tryd.ntmps217
    go_wp2
    go_ret
    exact ⟨ret_bool (by simp [h1]), rfl⟩
  · go_enter Tryd.func217, Tryd.ntmps217
    go_wp2
    go_ret
    exact ⟨ret_bool (by have e : decide (l ≤ x) = false := decide_eq_false (by omega); rw [e]; rfl), rfl⟩
theorem limitStated_any (t : Int) (w : World) : Calls Tryd.prog 216 #[.int .i64 t] w fun e w' => e = .returned (.bool (Sb.lim t)) ∧ w = w' := by
  go_enter Tryd.func216, Tryd.ntmps216
  go_wp2_with (go_at_call 217; refine (withinLimit_any _ _ _ _).mono ?_; rintro e w' ⟨rfl, rfl⟩)
  go_ret
  exact ⟨rfl, rfl⟩
set_option maxHeartbeats 800000 in
theorem lit_slope (ri ru : Int) (w : World) : Calls Tryd.prog 139 #[.iface 100 (.agg #[.int .i64 ri, .int .i64 ru])] w fun e w' => e = .returned (.bool (!Sb.slo ri ru)) ∧ Below w.heap.size w w' := by
  have hm : ∀ w : World, (method 351 100 (.agg #[.int .i64 ri, .int .i64 ru]) "loop.example/g01013/impl.isStated").run Tryd.prog w = .ok (213, .agg #[.int .i64 ri, .int .i64 ru]) w := fun _ => by kernel_rfl
  have C := Lib.hid (fun W => slopeStated_any ri ru W)
  generalize Sb.slo ri ru = q at *
  go_enter Tryd.func139, Tryd.ntmps139
  go_wp2_with fail
  refine (C.out _).mono ?_
  rintro e w1 ⟨rfl, b1⟩
  go_wp2_with fail
  go_ret
  exact ⟨rfl, b1⟩
set_option maxHeartbeats 800000 in
theorem lit_doubt (d : Int) (w : World) : Calls Tryd.prog 139 #[.iface 101 (.int .i64 d)] w fun e w' => e = .returned (.bool (!Ar.inB 0 d 1000)) ∧ Below w.heap.size w w' := by
  have hm : ∀ w : World, (method 351 101 (.int .i64 d) "loop.example/g01013/impl.isStated").run Tryd.prog w = .ok (214, .int .i64 d) w := fun _ => by kernel_rfl
  have C := Lib.hid (fun W => doubtStated_any d W)
  generalize Ar.inB 0 d 1000 = q at *
  go_enter Tryd.func139, Tryd.ntmps139
  go_wp2_with fail
  refine (C.out _).mono ?_
  rintro e w1 ⟨rfl, rfl⟩
  go_wp2_with fail
  go_ret
  exact ⟨rfl, Below.refl _ _⟩
set_option maxHeartbeats 800000 in
theorem lit_limit (t : Int) (w : World) : Calls Tryd.prog 139 #[.iface 102 (.int .i64 t)] w fun e w' => e = .returned (.bool (!Sb.lim t)) ∧ Below w.heap.size w w' := by
  have hm : ∀ w : World, (method 351 102 (.int .i64 t) "loop.example/g01013/impl.isStated").run Tryd.prog w = .ok (216, .int .i64 t) w := fun _ => by kernel_rfl
  have C := Lib.hid (fun W => limitStated_any t W)
  generalize Sb.lim t = q at *
  go_enter Tryd.func139, Tryd.ntmps139
  go_wp2_with fail
  refine (C.out _).mono ?_
  rintro e w1 ⟨rfl, rfl⟩
  go_wp2_with fail
  go_ret
  exact ⟨rfl, Below.refl _ _⟩
/-- a value of which a question asks whether it is as stated, and what it answers -/
def StV (u : Value) (b : Bool) : Prop := ∀ W : World, Calls Tryd.prog 139 #[u] W fun e w' => e = .returned (.bool (!b)) ∧ Below W.heap.size W w'
/-- a row of such values at an address, and what they answer -/
def StS (w : World) (v : Value) (us : List (Value × Bool)) : Prop :=
  (us = [] ∧ ∃ a cap, v = .slice a 0 cap) ∨ ∃ b off cap, v = .slice (some ⟨b, off, none⟩) us.length cap ∧ b < w.heap.size ∧ ∀ j (hj : j < us.length), w.cell? ⟨b, off + j, none⟩ = some us[j].1 ∧ StV us[j].1 us[j].2
theorem StS.below {w w1 : World} {v : Value} {us : List (Value × Bool)} (h : StS w v us) (hb : Below w.heap.size w w1) : StS w1 v us := by
  rcases h with h | ⟨b, off, cap, rfl, hlt, hc⟩
  · exact Or.inl h
  · exact Or.inr ⟨b, off, cap, rfl, Nat.lt_of_lt_of_le hlt hb.size, fun j hj => ⟨(hb.cell (p := ⟨b, off + j, none⟩) hlt).trans (hc j hj).1, (hc j hj).2⟩⟩
theorem StS.form {w : World} {v : Value} {us : List (Value × Bool)} (h : StS w v us) : ∃ a cap, v = .slice a us.length cap := by
  rcases h with ⟨rfl, a, cap, rfl⟩ | ⟨b, off, cap, rfl, _⟩ <;> exact ⟨_, _, rfl⟩
def nth2 (us : List (Value × Bool)) (k : Nat) : Bool := match us[k]? with | some x => x.2 | none => true
theorem nth2_at {us : List (Value × Bool)} {k : Nat} (h : k < us.length) : nth2 us k = us[k].2 := by unfold nth2; rw [List.getElem?_eq_getElem h]
set_option maxHeartbeats 2000000 in
theorem indexFuncS_any (w : World) (v : Value) (us : List (Value × Bool)) (hl : us.length ≤ 1048576) (hv0 : StS w v us) :
    Calls Tryd.prog 169 #[v, .func (.func 139) #[] #[]] w (Found (fun k => !nth2 us k) us.length (fun _ W => Below w.heap.size w W)) := by
  have eg : ∀ args w, (callFunc 139 args).run Tryd.prog w = .ok (.enter 139 args) w := enters_of Tryd.func139 (by kernel_rfl) rfl
  obtain ⟨a, cap, rfl⟩ := hv0.form
  have HV := Lib.hid hv0
  clear hv0
  go_enter Tryd.func169, Tryd.ntmps169
  go_wp2
  go_loopw [5, 8] (fun _ s8 wr => ∃ k : Nat, k ≤ us.length ∧ s8 = .int .i64 k ∧ Hid (Below w.heap.size w wr) ∧ Hid (∀ j, j < k → (!nth2 us j) = false)) (fun _ s8 _ => us.length - (intOf s8).toNat)
  case atStart => exact ⟨0, Nat.zero_le _, rfl, Lib.hid (Below.refl _ _), Lib.hid (fun j hj => absurd hj (Nat.not_lt_zero _))⟩
  case round =>
    obtain ⟨k, hk, rfl, hI, hp⟩ := hrel
    by_cases hlt : k < us.length
    · have hltz : (k : Int) < (us.length : Int) := by omega
      rcases HV.out.below hI.out with ⟨h0, -⟩ | ⟨b, off, cap1, hn, hbl, hcc⟩
      · subst h0; cases hlt
      simp only [Value.slice.injEq] at hn
      obtain ⟨rfl, -, rfl⟩ := hn
      obtain ⟨c0, hs⟩ := hcc k hlt
      have C := Lib.hid (hs wr)
      have hq := Lib.hid (nth2_at hlt)
      clear hcc hs
      generalize us[k].1 = u at *
      cases hq2 : us[k].2 with
      | false =>
        have Q : Hid ((!nth2 us k) = true) := Lib.hid (by rw [hq.out, hq2]; rfl)
        rw [hq2] at C
        clear hq2 hq
        go_wp2_with (go_at_fn 139; refine C.out.mono ?_; rintro e w' ⟨rfl, b'⟩; have B' := Lib.hid (bt hI.out b'); clear b')
        go_ret
        exact Or.inl ⟨k, hlt, Q.out, hp.out, rfl, B'.out⟩
      | true =>
        have Q : Hid (∀ j, j < k + 1 → (!nth2 us j) = false) := Lib.hid (fun j hj => by
          by_cases e : j = k
          · rw [e, hq.out, hq2]; rfl
          · exact hp.out j (by omega))
        rw [hq2] at C
        clear hq2 hq
        go_wp2_with (go_at_fn 139; refine C.out.mono ?_; rintro e w' ⟨rfl, b'⟩; have B' := Lib.hid (bt hI.out b'); clear b')
        exact ⟨⟨k + 1, by omega, by go_num, B', Q⟩, by simp only [intOf]; omega⟩
    · have hltz : ¬ (k : Int) < (us.length : Int) := by omega
      have hkn : k = us.length := by omega
      have HP : Hid (∀ j, j < us.length → (!nth2 us j) = false) := Lib.hid (by rw [← hkn]; exact hp.out)
      clear hkn hp
      go_wp2
      go_ret
      exact Or.inr ⟨HP.out, rfl, hI.out⟩
def allS (us : List (Value × Bool)) : Bool := us.all fun x => x.2
theorem allS_no {us : List (Value × Bool)} {k : Nat} (hk : k < us.length) (h : (!nth2 us k) = true) : allS us = false := by
  unfold allS
  rw [nth2_at hk] at h
  rw [List.all_eq_false]
  exact ⟨_, List.getElem_mem hk, by cases hb : us[k].2 <;> simp_all⟩
theorem allS_yes {us : List (Value × Bool)} (h : ∀ j, j < us.length → (!nth2 us j) = false) : allS us = true := by
  unfold allS
  rw [List.all_eq_true]
  intro x hx
  obtain ⟨j, hj, rfl⟩ := List.getElem_of_mem hx
  have := h j hj
  rw [nth2_at hj] at this
  cases hb : us[j].2 <;> simp_all
set_option maxHeartbeats 800000 in
theorem containsFuncS_any (w : World) (v : Value) (us : List (Value × Bool)) (hl : us.length ≤ 1048576) (hv0 : StS w v us) :
    Calls Tryd.prog 138 #[v, .func (.func 139) #[] #[]] w fun e w' => e = .returned (.bool (!allS us)) ∧ Below w.heap.size w w' := by
  have C := Lib.hid (indexFuncS_any w v us hl hv0)
  clear hv0
  go_enter Tryd.func138, Tryd.ntmps138
  go_wp2_with fail
  refine C.out.mono ?_
  rintro e w1 (⟨k, hk, h1, -, rfl, hb⟩ | ⟨h1, rfl, hb⟩)
  · have hq := Lib.hid (allS_no hk h1)
    have HB := Lib.hid hb
    clear h1 hb
    go_wp2_with fail
    go_ret
    exact ⟨ret_bool (by rw [hq.out]; simp), HB.out⟩
  · have hq := Lib.hid (allS_yes h1)
    have HB := Lib.hid hb
    clear h1 hb
    go_wp2_with fail
    go_ret
    exact ⟨ret_bool (by rw [hq.out]; simp), HB.out⟩
set_option maxHeartbeats 800000 in
theorem areStated_any (w : World) (v : Value) (us : List (Value × Bool)) (hl : us.length ≤ 1048576) (hv0 : StS w v us) :
    Calls Tryd.prog 105 #[v] w fun e w' => e = .returned (.bool (allS us)) ∧ Below w.heap.size w w' := by
  have C := Lib.hid (containsFuncS_any w v us hl hv0)
  generalize allS us = q at *
  clear hv0
  go_enter Tryd.func105, Tryd.ntmps105
  go_wp2_with fail
  refine C.out.mono ?_
  rintro e w1 ⟨rfl, b1⟩
  have B1 := Lib.hid b1
  clear b1
  cases q <;> (
    go_wp2_with fail
    go_ret
    exact ⟨rfl, B1.out⟩)
end Go.Proofs.YtaldmdammipfjaaDoor

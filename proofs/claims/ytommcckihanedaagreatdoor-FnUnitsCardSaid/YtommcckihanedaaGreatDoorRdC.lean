/-
  ReadClock and ReadDate, the model's and the program's. Conditions: the texts are at most 2^20 bytes long; MaxLen holds some number; for dates impl.monthDays holds its table.
-/
import Derived.Test.YtommcckihanedaaGreatDoorRdF
import Derived.Test.YtommcckihanedaaGreatDoorUnits
namespace Go.Proofs.YtommcckihanedaaGreatDoor
open Go.RowKit
set_option linter.unusedVariables false

theorem rdAll_small {ws : List Nat} {ps : List (List UInt8)} {vs : List Nat} (h : Fd.rdAll ws ps = some vs) (hle : ∀ x ∈ ws, x ≤ 4) : ∀ v ∈ vs, v ≤ 9999 := by
  induction ws generalizing ps vs with
  | nil => cases ps with
    | nil => simp only [Fd.rdAll, Option.some.injEq] at h; subst h; intro v hv; cases hv
    | cons q ps => cases h
  | cons x ws ih => cases ps with
    | nil => cases h
    | cons q ps =>
      simp only [Fd.rdAll] at h
      split at h
      · rename_i u us h3 h4
        simp only [Option.some.injEq] at h
        subst h
        intro v hv
        rcases List.mem_cons.1 hv with rfl | hv
        · unfold Fd.rd1 at h3
          split at h3
          · rename_i hq
            simp only [Option.some.injEq] at h3
            have h5 := Nu.val_lt _ hq.2
            rw [hq.1] at h5
            have h6 := Nat.pow_le_pow_right (n := 10) (by omega) (hle x List.mem_cons_self)
            omega
          · cases h3
        · exact ih h4 (fun y hy => hle y (List.mem_cons_of_mem _ hy)) v hv
      · cases h
theorem own_cells {B : Nat} {w : World} {u : Value} {zs : List Int} (h : Own B w u zs) (hn : 0 < zs.length) :
    ∃ g cap, u = .slice (some ⟨g, 0, none⟩) zs.length cap ∧ ∀ j x, zs[j]? = some x → w.cell? ⟨g, j, none⟩ = some (.int .i64 x) := by
  obtain ⟨g, cap, rfl⟩ := Go.Joins.ownsRow_form h hn
  refine ⟨g, cap, rfl, fun j x hx => ?_⟩
  have hj : j < zs.length := (List.getElem?_eq_some_iff.1 hx).1
  rw [World.ownsRow.cellAt h j (by omega)]
  exact iv_at hx
theorem sl_new (w : World) (t : TypeId) (zs : List Int) : Sl (w.alloc (.cells (iv zs).toArray t)) (.slice (some ⟨w.heap.size, 0, none⟩) zs.length zs.length) zs := by
  refine Or.inr ⟨w.heap.size, 0, zs.length, rfl, by simp, fun j x hx => ?_⟩
  have e := iv_at hx
  simp [e]
theorem rd1_small {k : Nat} {p : List UInt8} {v : Nat} (h : Fd.rd1 k p = some v) (hk : k ≤ 4) : v ≤ 9999 := by
  unfold Fd.rd1 at h
  split at h
  · rename_i hq
    simp only [Option.some.injEq] at h
    have h5 := Nu.val_lt _ hq.2
    rw [hq.1] at h5
    have h6 := Nat.pow_le_pow_right (n := 10) (by omega) hk
    omega
  · cases h
theorem ret_o {o o' : Option Int} (h : o' = o) {v : Int} {b : Bool} (hv : o'.getD 0 = v) (hb : o'.isSome = b) : Ending.returned (.tuple #[.int .i64 v, .bool b]) = .returned (.tuple #[.int .i64 (o.getD 0), .bool o.isSome]) := by
  subst h; rw [hv, hb]

/-- the minute that two numbers say -/
def hm (h m : Nat) : Option Int := if h ≤ 23 ∧ m ≤ 59 then some ((h : Int) * 60 + m) else none
theorem hm_y {h m : Nat} (a : h ≤ 23) (b : m ≤ 59) : hm h m = some ((h : Int) * 60 + m) := by unfold hm; rw [if_pos ⟨a, b⟩]
theorem hm_n {h m : Nat} (a : ¬ (h ≤ 23 ∧ m ≤ 59)) : hm h m = none := by unfold hm; rw [if_neg a]
/-- what ReadClock reads -/
def clkV (l : List UInt8) : Option Int := match Fd.flds 58 [2, 2] l with | some [h, m] => hm h m | _ => none
theorem fl2 (c : UInt8) (l : List UInt8) : Fd.flds c [2, 2] l = if 2 < l.length ∧ l[2]? = some c then (match Fd.rd1 2 (l.take 2), (match Fd.rd1 2 (l.drop 3) with | some v => some [v] | none => none) with | some v, some vs => some (v :: vs) | _, _ => none) else none := rfl
theorem fl2_len {c : UInt8} {l : List UInt8} (h : l.length ≠ 5) : Fd.flds c [2, 2] l = none := by
  rw [fl2]
  split
  · rw [Fd.rd1_none (w := 2) (p := l.drop 3) (fun h2 => by have := h2.1; rw [List.length_drop] at this; omega)]
    split <;> simp_all
  · rfl
theorem fl2_sep {c : UInt8} {l : List UInt8} (h : l[2]? ≠ some c) : Fd.flds c [2, 2] l = none := by
  rw [fl2, if_neg (fun h2 => h h2.2)]
theorem fl2_in {c : UInt8} {l : List UInt8} (h : l.length = 5) (h2 : l[2]? = some c) : Fd.flds c [2, 2] l = (match Fd.rd1 2 ((l.drop 0).take 2), Fd.rd1 2 ((l.drop 3).take 2) with | some v, some u => some [v, u] | _, _ => none) := by
  rw [fl2, if_pos ⟨by omega, h2⟩, List.drop_zero, List.take_of_length_le (l := l.drop 3) (by rw [List.length_drop]; omega)]
  cases Fd.rd1 2 (l.take 2) <;> cases Fd.rd1 2 (l.drop 3) <;> rfl
theorem clk_none {l : List UInt8} (h : Fd.flds 58 [2, 2] l = none) : clkV l = none := by unfold clkV; rw [h]
theorem clk_some {l : List UInt8} {h m : Nat} (e : Fd.flds 58 [2, 2] l = some [h, m]) : clkV l = hm h m := by unfold clkV; rw [e]

set_option maxRecDepth 100000 in
set_option maxHeartbeats 3200000 in
theorem implReadClock_any (s : ByteArray) (w : World) (hs : s.size ≤ 1048576) (hm' : MaxN w) :
    Calls Tryz.prog 7 #[.string s] w fun e w' => e = .returned (.tuple #[.int .i64 ((clkV s.data.toList).getD 0), .bool (clkV s.data.toList).isSome]) ∧ Below w.heap.size w w' := by
  have E : Fd.flds 58 [2, 2] s.data.toList = Fd.rdAll [2, 2] (Lib.splitK [58] 0 1 s.data.toList) := Fd.flds_eq (by decide) [2, 2] _ (by simp)
  have hb0 : Below w.heap.size w (w.alloc (.cells (iv [2, 2]).toArray 3)) := (Below.refl _ _).alloc (Nat.le_refl _) _
  have C : Hid (Calls Tryz.prog 23 #[.string s, .string ⟨#[58]⟩, .slice (some ⟨w.heap.size, 0, none⟩) 2 2] (w.alloc (.cells #[.int .i64 2, .int .i64 2] 3)) (RF (w.alloc (.cells #[.int .i64 2, .int .i64 2] 3)) (Fd.rdAll [2, 2] (Lib.splitK [58] 0 1 s.data.toList)))) :=
    Lib.hid (readFields_any s 58 [2, 2] _ (w.alloc (.cells (iv [2, 2]).toArray 3)) hs (sl_new w 3 [2, 2]) (by decide) (by decide) (by decide) (hm'.below hb0))
  have HB0 : Hid (Below w.heap.size w (w.alloc (.cells #[.int .i64 2, .int .i64 2] 3))) := Lib.hid hb0
  have HL := Lib.hid (fun vs (h : Fd.rdAll [2, 2] (Lib.splitK [58] 0 1 s.data.toList) = some vs) => (Fd.rdAll_len h).2)
  have HS := Lib.hid (fun vs (h : Fd.rdAll [2, 2] (Lib.splitK [58] 0 1 s.data.toList) = some vs) => rdAll_small h (by decide))
  have H0 := Lib.hid (fun (h : Fd.rdAll [2, 2] (Lib.splitK [58] 0 1 s.data.toList) = none) => clk_none (E.trans h))
  have H1 := Lib.hid (fun a b (h : Fd.rdAll [2, 2] (Lib.splitK [58] 0 1 s.data.toList) = some [a, b]) => clk_some (E.trans h))
  clear E hb0 hm'
  generalize Fd.rdAll [2, 2] (Lib.splitK [58] 0 1 s.data.toList) = x at *
  generalize clkV s.data.toList = o at *
  rcases x with _ | vs
  · have hr := Lib.hid (H0.out rfl)
    go_enter Tryz.func7, Tryz.ntmps7
    go_wp2_with fail
    refine C.out.mono ?_
    rintro e w1 ⟨u, rfl, hu, b1⟩
    have B1 := Lib.hid (bt HB0.out b1)
    clear b1 hu
    go_wp2_with fail
    go_ret2
    exact ⟨ret_o hr.out.symm rfl rfl, B1.out⟩
  · have hl := HL.out vs rfl
    match vs, hl with
    | [a, b], _ =>
      have a1 := HS.out _ rfl a (by simp)
      have b1 := HS.out _ rfl b (by simp)
      have hr := Lib.hid (H1.out a b rfl)
      clear HL HS H0 H1
      by_cases ha : a ≤ 23
      · by_cases hb : b ≤ 59
        · have hr2 : Hid (o = some ((a : Int) * 60 + b)) := Lib.hid (hr.out.trans (hm_y ha hb))
          have k1 : ¬ (23 : Int) < (a : Int) := by omega
          have k2 : ¬ (60 : Int) ≤ (b : Int) := by omega
          go_enter Tryz.func7, Tryz.ntmps7
          go_wp2_with fail
          refine C.out.mono ?_
          rintro e w1 ⟨u, rfl, hu, b1⟩
          have B1 := Lib.hid (bt HB0.out b1)
          obtain ⟨g, cap, rfl, hc⟩ := own_cells hu (by simp [nz])
          have c0 : w1.cell? ⟨g, 0, none⟩ = some (.int .i64 (a : Int)) := hc 0 _ rfl
          have c1 : w1.cell? ⟨g, 1, none⟩ = some (.int .i64 (b : Int)) := hc 1 _ rfl
          have hln : (nz ((some [a, b]).getD [])).length = 2 := rfl
          rw [hln]
          clear b1 hu hc hln
          go_wp2_with fail
          go_quiet (fail)
          go_wp2
          go_ret2
          exact ⟨ret_o hr2.out.symm (by simp) rfl, below_drewN B1.out _⟩
        · have hr2 : Hid (o = none) := Lib.hid (hr.out.trans (hm_n (by omega)))
          have k1 : ¬ (23 : Int) < (a : Int) := by omega
          have k2 : (60 : Int) ≤ (b : Int) := by omega
          go_enter Tryz.func7, Tryz.ntmps7
          go_wp2_with fail
          refine C.out.mono ?_
          rintro e w1 ⟨u, rfl, hu, b1⟩
          have B1 := Lib.hid (bt HB0.out b1)
          obtain ⟨g, cap, rfl, hc⟩ := own_cells hu (by simp [nz])
          have c0 : w1.cell? ⟨g, 0, none⟩ = some (.int .i64 (a : Int)) := hc 0 _ rfl
          have c1 : w1.cell? ⟨g, 1, none⟩ = some (.int .i64 (b : Int)) := hc 1 _ rfl
          have hln : (nz ((some [a, b]).getD [])).length = 2 := rfl
          rw [hln]
          clear b1 hu hc hln
          go_wp2_with fail
          go_ret2
          exact ⟨ret_o hr2.out.symm rfl rfl, B1.out⟩
      · have hr2 : Hid (o = none) := Lib.hid (hr.out.trans (hm_n (by omega)))
        have k1 : (23 : Int) < (a : Int) := by omega
        go_enter Tryz.func7, Tryz.ntmps7
        go_wp2_with fail
        refine C.out.mono ?_
        rintro e w1 ⟨u, rfl, hu, b1⟩
        have B1 := Lib.hid (bt HB0.out b1)
        obtain ⟨g, cap, rfl, hc⟩ := own_cells hu (by simp [nz])
        have c0 : w1.cell? ⟨g, 0, none⟩ = some (.int .i64 (a : Int)) := hc 0 _ rfl
        have hln : (nz ((some [a, b]).getD [])).length = 2 := rfl
        rw [hln]
        clear b1 hu hc hln
        go_wp2_with fail
        go_ret2
        exact ⟨ret_o hr2.out.symm rfl rfl, B1.out⟩
end Go.Proofs.YtommcckihanedaaGreatDoor

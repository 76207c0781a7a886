import Derived.Test.YtjogppgddjfejaaDoorTab
import Derived.Test.YtjogppgddjfejaaDoorNumber
namespace Go.Proofs.YtjogppgddjfejaaDoor
open Go.RowKit
set_option linter.unusedVariables false

theorem rd_none {l : List UInt8} (h : Nu.body l = [] ∨ 18 < (Nu.body l).length ∨ (Nu.hd48 (Nu.body l) = true ∧ 1 < l.length) ∨ (Nu.body l).all Nu.dgB = false) : Nu.rd l = none := by
  unfold Nu.rd; rw [if_pos h]
theorem rd_yes {l : List UInt8} (h1 : Nu.body l ≠ []) (h2 : (Nu.body l).length ≤ 18) (h3 : ¬ (Nu.hd48 (Nu.body l) = true ∧ 1 < l.length)) (h4 : (Nu.body l).all Nu.dgB = true) :
    Nu.rd l = some (if Nu.neg l then -(Nu.val (Nu.body l) : Int) else Nu.val (Nu.body l)) := by
  unfold Nu.rd; rw [if_neg (by rintro (h | h | h | h) <;> first | exact h1 h | omega | exact h3 h | (rw [h4] at h; cases h))]
theorem drop_cons (s : ByteArray) (k : Nat) (h : k < s.size) : s.data.toList.drop k = s[k] :: s.data.toList.drop (k + 1) := by
  rw [List.drop_eq_getElem_cons (by simpa using h)]; rfl
theorem hd_at {s : ByteArray} {k : Nat} (h : k < s.size) : Nu.hd48 (s.data.toList.drop k) = decide (s[k].toNat = 48) := by
  rw [drop_cons s k h]; rfl
theorem body_neg {s : ByteArray} (h : 0 < s.size) (h45 : s[0].toNat = 45) : Nu.body s.data.toList = s.data.toList.drop 1 ∧ Nu.neg s.data.toList = true := by
  have e := drop_cons s 0 h
  rw [List.drop_zero] at e
  rw [e]
  constructor
  · simp only [Nu.body, h45, if_true]; simp
  · simp [Nu.neg, h45]
theorem body_pos {s : ByteArray} (h : 0 < s.size) (h45 : ¬ s[0].toNat = 45) : Nu.body s.data.toList = s.data.toList.drop 0 ∧ Nu.neg s.data.toList = false := by
  have e := drop_cons s 0 h
  rw [List.drop_zero] at e ⊢
  constructor
  · conv => lhs; rw [e]
    simp only [Nu.body, h45, if_false]; exact e.symm
  · rw [e]; simp [Nu.neg, h45]
theorem sz (s : ByteArray) : s.data.toList.length = s.size := by simp
theorem at_drop {s : ByteArray} {a j : Nat} (h : a + j < s.size) : (s.data.toList.drop a).take (j + 1) = (s.data.toList.drop a).take j ++ [s[a + j]] := by
  rw [List.take_succ_eq_append_getElem (by have := sz s; simp; omega)]
  simp; rfl
theorem at_drop0 {s : ByteArray} {j : Nat} (h : j < s.size) : (s.data.toList.drop 0).take (j + 1) = (s.data.toList.drop 0).take j ++ [s[j]] := by
  have := at_drop (s := s) (a := 0) (j := j) (by omega)
  simpa using this
theorem all_take_f {l : List UInt8} {k : Nat} (h : (l.take k).all Nu.dgB = false) : l.all Nu.dgB = false := by
  rw [← List.take_append_drop k l, List.all_append, h]; rfl

theorem l01DigitB_any (c : UInt8) (w : World) :
    Calls Tryd.prog 32 #[.int .u8 c.toNat] w fun e w' => e = .returned (.bool (Nu.dgB c)) ∧ w = w' := by
  by_cases h1 : 48 ≤ (c.toNat : Int)
  · have hd : Hid (Nu.dgB c = decide ((c.toNat : Int) ≤ 57)) := Lib.hid (by unfold Nu.dgB; rw [Bool.eq_iff_iff]; simp; omega)
    go_enter Tryd.func32, Tryd.ntmps32
    go_wp2
    go_ret
    exact ⟨ret_bool hd.out.symm, rfl⟩
  · have hd : Hid (Nu.dgB c = false) := Lib.hid (by unfold Nu.dgB; simp; omega)
    go_enter Tryd.func32, Tryd.ntmps32
    go_wp2
    go_ret
    exact ⟨ret_bool hd.out.symm, rfl⟩
theorem ret_num {l : List UInt8} {o : Option Int} (h : Nu.rd l = o) {v : Int} {b : Bool} (hv : o.getD 0 = v) (hb : o.isSome = b) : Ending.returned (.tuple #[.int .i64 v, .bool b]) = .returned (.tuple #[.int .i64 ((Nu.rd l).getD 0), .bool (Nu.rd l).isSome]) := by
  rw [h, hv, hb]
set_option maxHeartbeats 3200000 in
set_option maxRecDepth 100000 in
theorem l01Number_any (s : ByteArray) (w : World) (hs : s.size ≤ 1048576) :
    Calls Tryd.prog 19 #[.string s] w fun e w' => e = .returned (.tuple #[.int .i64 ((Nu.rd s.data.toList).getD 0), .bool (Nu.rd s.data.toList).isSome]) ∧ w = w' := by
  have hsz := sz s
  by_cases h0 : s.size = 0
  · have hr : Hid (Nu.rd s.data.toList = none) := Lib.hid (by
      have hnil : s.data.toList = [] := List.eq_nil_of_length_eq_zero (by omega)
      rw [hnil]; exact rd_none (Or.inl rfl))
    clear hsz
    have hz : ((s.size : Int) == 0) = true := beq_iff_eq.2 (by omega)
    go_enter Tryd.func19, Tryd.ntmps19
    go_wp2
    go_ret2
    exact ⟨ret_num hr.out rfl rfl, rfl⟩
  · have p0 : 0 < s.size := by omega
    by_cases h45 : (s[0]'p0).toNat = 45
    · obtain ⟨eb, en⟩ := body_neg p0 h45
      have t45 : (((s[0]'p0).toNat : Int) == 45) = true := by simp; omega
      clear h45
      have hz1 : ((s.size : Int) == 1) = true ∨ ((s.size : Int) == 1) = false := by rcases Nat.lt_trichotomy s.size 1 with h | h | h <;> simp <;> omega
      by_cases h1 : s.size = 1
      · have hr : Hid (Nu.rd s.data.toList = none) := Lib.hid (rd_none (Or.inl (by rw [eb]; exact List.drop_eq_nil_of_le (by omega))))
        have hz : ((s.size : Int) == 1) = true := by simp; omega
        clear eb en hsz hz1
        go_enter Tryd.func19, Tryd.ntmps19
        go_wp2
        go_ret2
        exact ⟨ret_num hr.out rfl rfl, rfl⟩
      have hz : ((s.size : Int) == 1) = false := beq_eq_false_iff_ne.2 (by omega)
      clear hz1
      have hbl : (s.data.toList.drop 1).length = s.size - 1 := by simp
      by_cases hlong : 18 < s.size - 1
      · have hr : Hid (Nu.rd s.data.toList = none) := Lib.hid (rd_none (Or.inr (Or.inl (by rw [eb]; omega))))
        have hlong' : (18 : Int) < (s.size : Int) - 1 := by omega
        clear eb en hsz hbl
        go_enter Tryd.func19, Tryd.ntmps19
        go_wp2
        go_ret2
        exact ⟨ret_num hr.out rfl rfl, rfl⟩
      have hshort : ¬ (18 : Int) < (s.size : Int) - 1 := by omega
      have pa : 1 < s.size := by omega
      have hhd := hd_at pa
      by_cases h48 : (s[1]'pa).toNat = 48 ∧ 1 < s.size
      · have hr : Hid (Nu.rd s.data.toList = none) := Lib.hid (rd_none (Or.inr (Or.inr (Or.inl ⟨by rw [eb, hhd]; simpa using h48.1, by omega⟩))))
        have t48 : (((s[1]'pa).toNat : Int) == 48) = true := by simp; omega
        have t1 : (1 : Int) < s.size := by omega
        clear eb en hsz hbl hhd h48
        go_enter Tryd.func19, Tryd.ntmps19
        go_wp2
        go_ret2
        exact ⟨ret_num hr.out rfl rfl, rfl⟩
      have hyes : Hid ((s.data.toList.drop 1).all Nu.dgB = true → Nu.rd s.data.toList = some (-(Nu.val (s.data.toList.drop 1) : Int))) := Lib.hid (fun hall => by
        have hne : Nu.body s.data.toList ≠ [] := by rw [eb]; intro hc; rw [hc] at hbl; simp at hbl; omega
        have := rd_yes hne (by rw [eb]; omega) (by rw [eb, hhd, sz]; simpa using h48) (by rw [eb]; exact hall)
        rw [this, en, eb]; rfl)
      have hno : Hid ((s.data.toList.drop 1).all Nu.dgB = false → Nu.rd s.data.toList = none) := Lib.hid (fun hall => rd_none (Or.inr (Or.inr (Or.inr (by rw [eb]; exact hall)))))
      have hlast : Hid ((s.data.toList.drop 1).take (s.size - 1) = s.data.toList.drop 1) := Lib.hid (List.take_of_length_le (by omega))
      have ht48 : Hid ((((s[1]'pa).toNat : Int) == 48) = true → ¬ 1 < s.size) := Lib.hid (fun hc h => h48 ⟨by simp at hc; omega, h⟩)
      clear eb en hsz hbl hhd h48 hlong
      have main : ∀ (t : Bool), (((s[1]'pa).toNat : Int) == 48) = t → (t = true → s.size = 1) → Calls Tryd.prog 19 #[.string s] w fun e w' => e = .returned (.tuple #[.int .i64 ((Nu.rd s.data.toList).getD 0), .bool (Nu.rd s.data.toList).isSome]) ∧ w = w' := by
        intro t ht hts
        have hb1 : t = true ∨ t = false := by cases t <;> simp
        rcases hb1 with rfl | rfl
        · exact absurd (hts rfl) h1
        · clear hts
          go_enter Tryd.func19, Tryd.ntmps19
          go_wp2
          go_loop [5, 6] (fun x y => ∃ j n : Nat, j ≤ s.size - 1 ∧ y = .int .i64 ((1 + j : Nat) : Int) ∧ x = .int .i64 n ∧ Hid (((s.data.toList.drop 1).take j).all Nu.dgB = true) ∧ Hid (Nu.val ((s.data.toList.drop 1).take j) = n)) (fun _ y => s.size - (intOf y).toNat)
          case atStart => exact ⟨0, 0, Nat.zero_le _, rfl, rfl, Lib.hid (by simp), Lib.hid (by simp [Nu.val])⟩
          case round =>
            obtain ⟨j, n, hj, rfl, rfl, hall, hval⟩ := hrel
            by_cases hlt : 1 + j < s.size
            · have hn : n < 100000000000000000 := by
                have h1 := Nu.val_lt _ hall.out
                rw [hval.out] at h1
                exact Nat.lt_of_lt_of_le h1 (Nat.le_trans (Nat.pow_le_pow_right (by omega) (show _ ≤ 17 by simp; omega)) (by decide))
              have hts1 := at_drop (s := s) (a := 1) (j := j) hlt
              by_cases hd : Nu.dgB (s[1 + j]'hlt) = true
              · have hdd := (Nu.dgB_iff _).1 hd
                have H1 : Hid (((s.data.toList.drop 1).take (j + 1)).all Nu.dgB = true) := Lib.hid (by rw [hts1, List.all_append, hall.out]; simp [hd])
                have H2 : Hid (Nu.val ((s.data.toList.drop 1).take (j + 1)) = n * 10 + ((s[1 + j]'hlt).toNat - 48)) := Lib.hid (by rw [hts1, Nu.val_snoc, hval.out])
                have d1 : (48 : Int) ≤ (s[1 + j]'hlt).toNat := by omega
                have d2 : ((s[1 + j]'hlt).toNat : Int) ≤ 57 := by omega
                clear hts1 hdd
                go_wp2_with (go_at_call 32; refine (l01DigitB_any _ _).mono ?_; rintro e w' ⟨rfl, rfl⟩)
                refine ⟨⟨j + 1, n * 10 + ((s[1 + j]'hlt).toNat - 48), by omega, by go_num, ?_, H1, H2⟩, by simp [intOf]; omega⟩
                rw [show (((n * 10 + ((s[1 + j]'hlt).toNat - 48) : Nat)) : Int) = 10 * (n : Int) + (((s[1 + j]'hlt).toNat : Int) - 48) from by omega]
              · have hd' : Nu.dgB (s[1 + j]'hlt) = false := by simpa using hd
                have hr : Hid (Nu.rd s.data.toList = none) := Lib.hid (hno.out (all_take_f (k := j + 1) (by rw [hts1, List.all_append]; simp [hd'])))
                clear hts1 hd
                go_wp2_with (go_at_call 32; refine (l01DigitB_any _ _).mono ?_; rintro e w' ⟨rfl, rfl⟩)
                go_ret2
                exact ⟨ret_num hr.out rfl rfl, rfl⟩
            · have hje : j = s.size - 1 := by omega
              have hr : Hid (Nu.rd s.data.toList = some (-(n : Int))) := Lib.hid (by
                have h1 := hall.out
                have h2 := hval.out
                rw [hje, hlast.out] at h1 h2
                rw [hyes.out h1, h2])
              have hn : n < 1000000000000000001 := by
                have h1 := Nu.val_lt _ hall.out
                rw [hval.out] at h1
                exact Nat.lt_of_lt_of_le h1 (Nat.le_trans (Nat.pow_le_pow_right (by omega) (show _ ≤ 18 by simp; omega)) (by decide))
              clear hje
              go_wp2
              go_ret2
              exact ⟨ret_num hr.out rfl rfl, rfl⟩
      refine main _ rfl (fun ht => ?_)
      have := ht48.out ht
      omega
    · obtain ⟨eb, en⟩ := body_pos p0 h45
      have t45 : (((s[0]'p0).toNat : Int) == 45) = false := by simp; omega
      clear h45
      have hz : ((s.size : Int) == 0) = false := beq_eq_false_iff_ne.2 (by omega)
      have hbl : (s.data.toList.drop 0).length = s.size - 0 := by simp
      by_cases hlong : 18 < s.size - 0
      · have hr : Hid (Nu.rd s.data.toList = none) := Lib.hid (rd_none (Or.inr (Or.inl (by rw [eb]; omega))))
        have hlong' : (18 : Int) < (s.size : Int) - 0 := by omega
        clear eb en hsz hbl
        go_enter Tryd.func19, Tryd.ntmps19
        go_wp2
        go_ret2
        exact ⟨ret_num hr.out rfl rfl, rfl⟩
      have hshort : ¬ (18 : Int) < (s.size : Int) - 0 := by omega
      have pa : 0 < s.size := by omega
      have hhd := hd_at pa
      by_cases h48 : (s[0]'pa).toNat = 48 ∧ 1 < s.size
      · have hr : Hid (Nu.rd s.data.toList = none) := Lib.hid (rd_none (Or.inr (Or.inr (Or.inl ⟨by rw [eb, hhd]; simpa using h48.1, by omega⟩))))
        have t48 : (((s[0]'pa).toNat : Int) == 48) = true := by simp; omega
        have t1 : (1 : Int) < s.size := by omega
        clear eb en hsz hbl hhd h48
        go_enter Tryd.func19, Tryd.ntmps19
        go_wp2
        go_ret2
        exact ⟨ret_num hr.out rfl rfl, rfl⟩
      have hyes : Hid ((s.data.toList.drop 0).all Nu.dgB = true → Nu.rd s.data.toList = some ((Nu.val (s.data.toList.drop 0) : Int))) := Lib.hid (fun hall => by
        have hne : Nu.body s.data.toList ≠ [] := by rw [eb]; intro hc; rw [hc] at hbl; simp at hbl; omega
        have := rd_yes hne (by rw [eb]; omega) (by rw [eb, hhd, sz]; simpa using h48) (by rw [eb]; exact hall)
        rw [this, en, eb]; rfl)
      have hno : Hid ((s.data.toList.drop 0).all Nu.dgB = false → Nu.rd s.data.toList = none) := Lib.hid (fun hall => rd_none (Or.inr (Or.inr (Or.inr (by rw [eb]; exact hall)))))
      have hlast : Hid ((s.data.toList.drop 0).take (s.size - 0) = s.data.toList.drop 0) := Lib.hid (List.take_of_length_le (by omega))
      have ht48 : Hid ((((s[0]'pa).toNat : Int) == 48) = true → ¬ 1 < s.size) := Lib.hid (fun hc h => h48 ⟨by simp at hc; omega, h⟩)
      clear eb en hsz hbl hhd h48 hlong
      have main : ∀ (t : Bool), (((s[0]'pa).toNat : Int) == 48) = t → (t = true → s.size = 1) → Calls Tryd.prog 19 #[.string s] w fun e w' => e = .returned (.tuple #[.int .i64 ((Nu.rd s.data.toList).getD 0), .bool (Nu.rd s.data.toList).isSome]) ∧ w = w' := by
        intro t ht hts
        have hb1 : t = true ∨ t = false := by cases t <;> simp
        rcases hb1 with rfl | rfl
        · have hs1 : ¬ (1 : Int) < s.size := by have := hts rfl; omega
          clear hts
          go_enter Tryd.func19, Tryd.ntmps19
          go_wp2
          go_loop [5, 6] (fun x y => ∃ j n : Nat, j ≤ s.size - 0 ∧ y = .int .i64 ((j : Nat) : Int) ∧ x = .int .i64 n ∧ Hid (((s.data.toList.drop 0).take j).all Nu.dgB = true) ∧ Hid (Nu.val ((s.data.toList.drop 0).take j) = n)) (fun _ y => s.size - (intOf y).toNat)
          case atStart => exact ⟨0, 0, Nat.zero_le _, rfl, rfl, Lib.hid (by simp), Lib.hid (by simp [Nu.val])⟩
          case round =>
            obtain ⟨j, n, hj, rfl, rfl, hall, hval⟩ := hrel
            by_cases hlt : j < s.size
            · have hn : n < 100000000000000000 := by
                have h1 := Nu.val_lt _ hall.out
                rw [hval.out] at h1
                exact Nat.lt_of_lt_of_le h1 (Nat.le_trans (Nat.pow_le_pow_right (by omega) (show _ ≤ 17 by simp; omega)) (by decide))
              have hts1 := at_drop0 (s := s) (j := j) hlt
              by_cases hd : Nu.dgB (s[j]'hlt) = true
              · have hdd := (Nu.dgB_iff _).1 hd
                have H1 : Hid (((s.data.toList.drop 0).take (j + 1)).all Nu.dgB = true) := Lib.hid (by rw [hts1, List.all_append, hall.out]; simp [hd])
                have H2 : Hid (Nu.val ((s.data.toList.drop 0).take (j + 1)) = n * 10 + ((s[j]'hlt).toNat - 48)) := Lib.hid (by rw [hts1, Nu.val_snoc, hval.out])
                have d1 : (48 : Int) ≤ (s[j]'hlt).toNat := by omega
                have d2 : ((s[j]'hlt).toNat : Int) ≤ 57 := by omega
                clear hts1 hdd
                go_wp2_with (go_at_call 32; refine (l01DigitB_any _ _).mono ?_; rintro e w' ⟨rfl, rfl⟩)
                refine ⟨⟨j + 1, n * 10 + ((s[j]'hlt).toNat - 48), by omega, by go_num, ?_, H1, H2⟩, by simp [intOf]; omega⟩
                rw [show (((n * 10 + ((s[j]'hlt).toNat - 48) : Nat)) : Int) = 10 * (n : Int) + (((s[j]'hlt).toNat : Int) - 48) from by omega]
              · have hd' : Nu.dgB (s[j]'hlt) = false := by simpa using hd
                have hr : Hid (Nu.rd s.data.toList = none) := Lib.hid (hno.out (all_take_f (k := j + 1) (by rw [hts1, List.all_append]; simp [hd'])))
                clear hts1 hd
                go_wp2_with (go_at_call 32; refine (l01DigitB_any _ _).mono ?_; rintro e w' ⟨rfl, rfl⟩)
                go_ret2
                exact ⟨ret_num hr.out rfl rfl, rfl⟩
            · have hje : j = s.size - 0 := by omega
              have hr : Hid (Nu.rd s.data.toList = some ((n : Int))) := Lib.hid (by
                have h1 := hall.out
                have h2 := hval.out
                rw [hje, hlast.out] at h1 h2
                rw [hyes.out h1, h2])
              have hn : n < 1000000000000000001 := by
                have h1 := Nu.val_lt _ hall.out
                rw [hval.out] at h1
                exact Nat.lt_of_lt_of_le h1 (Nat.le_trans (Nat.pow_le_pow_right (by omega) (show _ ≤ 18 by simp; omega)) (by decide))
              clear hje
              go_wp2
              go_ret2
              exact ⟨ret_num hr.out rfl rfl, rfl⟩
        · clear hts
          go_enter Tryd.func19, Tryd.ntmps19
          go_wp2
          go_loop [5, 6] (fun x y => ∃ j n : Nat, j ≤ s.size - 0 ∧ y = .int .i64 ((j : Nat) : Int) ∧ x = .int .i64 n ∧ Hid (((s.data.toList.drop 0).take j).all Nu.dgB = true) ∧ Hid (Nu.val ((s.data.toList.drop 0).take j) = n)) (fun _ y => s.size - (intOf y).toNat)
          case atStart => exact ⟨0, 0, Nat.zero_le _, rfl, rfl, Lib.hid (by simp), Lib.hid (by simp [Nu.val])⟩
          case round =>
            obtain ⟨j, n, hj, rfl, rfl, hall, hval⟩ := hrel
            by_cases hlt : j < s.size
            · have hn : n < 100000000000000000 := by
                have h1 := Nu.val_lt _ hall.out
                rw [hval.out] at h1
                exact Nat.lt_of_lt_of_le h1 (Nat.le_trans (Nat.pow_le_pow_right (by omega) (show _ ≤ 17 by simp; omega)) (by decide))
              have hts1 := at_drop0 (s := s) (j := j) hlt
              by_cases hd : Nu.dgB (s[j]'hlt) = true
              · have hdd := (Nu.dgB_iff _).1 hd
                have H1 : Hid (((s.data.toList.drop 0).take (j + 1)).all Nu.dgB = true) := Lib.hid (by rw [hts1, List.all_append, hall.out]; simp [hd])
                have H2 : Hid (Nu.val ((s.data.toList.drop 0).take (j + 1)) = n * 10 + ((s[j]'hlt).toNat - 48)) := Lib.hid (by rw [hts1, Nu.val_snoc, hval.out])
                have d1 : (48 : Int) ≤ (s[j]'hlt).toNat := by omega
                have d2 : ((s[j]'hlt).toNat : Int) ≤ 57 := by omega
                clear hts1 hdd
                go_wp2_with (go_at_call 32; refine (l01DigitB_any _ _).mono ?_; rintro e w' ⟨rfl, rfl⟩)
                refine ⟨⟨j + 1, n * 10 + ((s[j]'hlt).toNat - 48), by omega, by go_num, ?_, H1, H2⟩, by simp [intOf]; omega⟩
                rw [show (((n * 10 + ((s[j]'hlt).toNat - 48) : Nat)) : Int) = 10 * (n : Int) + (((s[j]'hlt).toNat : Int) - 48) from by omega]
              · have hd' : Nu.dgB (s[j]'hlt) = false := by simpa using hd
                have hr : Hid (Nu.rd s.data.toList = none) := Lib.hid (hno.out (all_take_f (k := j + 1) (by rw [hts1, List.all_append]; simp [hd'])))
                clear hts1 hd
                go_wp2_with (go_at_call 32; refine (l01DigitB_any _ _).mono ?_; rintro e w' ⟨rfl, rfl⟩)
                go_ret2
                exact ⟨ret_num hr.out rfl rfl, rfl⟩
            · have hje : j = s.size - 0 := by omega
              have hr : Hid (Nu.rd s.data.toList = some ((n : Int))) := Lib.hid (by
                have h1 := hall.out
                have h2 := hval.out
                rw [hje, hlast.out] at h1 h2
                rw [hyes.out h1, h2])
              have hn : n < 1000000000000000001 := by
                have h1 := Nu.val_lt _ hall.out
                rw [hval.out] at h1
                exact Nat.lt_of_lt_of_le h1 (Nat.le_trans (Nat.pow_le_pow_right (by omega) (show _ ≤ 18 by simp; omega)) (by decide))
              clear hje
              go_wp2
              go_ret2
              exact ⟨ret_num hr.out rfl rfl, rfl⟩
      refine main _ rfl (fun ht => ?_)
      have := ht48.out ht
      omega
end Go.Proofs.YtjogppgddjfejaaDoor

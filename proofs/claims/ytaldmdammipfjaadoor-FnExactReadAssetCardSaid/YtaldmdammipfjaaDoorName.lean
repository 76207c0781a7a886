import Derived.Test.YtaldmdammipfjaaDoorNum
import Derived.WalkArith
import Derived.BigQuiet
import Derived.Deep.QuietTactic
namespace Go.Proofs.YtaldmdammipfjaaDoor
open Go.RowKit
set_option linter.unusedVariables false

/-- is a byte a small letter? a digit? -/
def lo (c : Int) : Bool := Ar.inB 97 c 122
def dg (c : Int) : Bool := Ar.inB 48 c 57

theorem withinB_any (x l h : Int) (w : World) :
    Calls Tryd.prog 145 #[.int .u8 x, .int .u8 l, .int .u8 h] w fun e w' => e = .returned (.bool (Ar.inB l x h)) ∧ w = w' := by
  by_cases h1 : l ≤ x
  · go_enter Tryd.func145, Tryd.ntmps145
    go_wp2
    go_ret
    exact ⟨ret_bool (by unfold Ar.inB; simp [h1]), rfl⟩
  · go_enter Tryd.func145, Tryd.ntmps145
    go_wp2
    go_ret
    exact ⟨ret_bool (by rw [Ar.inB_f]; omega), rfl⟩
theorem withinI_any (x l h : Int) (w : World) :
    Calls Tryd.prog 118 #[.int .i64 x, .int .i64 l, .int .i64 h] w fun e w' => e = .returned (.bool (Ar.inB l x h)) ∧ w = w' := by
  by_cases h1 : l ≤ x
  · go_enter Tryd.func118, Tryd.ntmps118
    go_wp2
    go_ret
    exact ⟨ret_bool (by unfold Ar.inB; simp [h1]), rfl⟩
  · go_enter Tryd.func118, Tryd.ntmps118
    go_wp2
    go_ret
    exact ⟨ret_bool (by rw [Ar.inB_f]; omega), rfl⟩
theorem isLetter_any (x : Int) (w : World) :
    Calls Tryd.prog 119 #[.int .u8 x] w fun e w' => e = .returned (.bool (lo x)) ∧ w = w' := by
  go_enter Tryd.func119, Tryd.ntmps119
  go_wp2_with (go_at_call 145; refine (withinB_any _ _ _ _).mono ?_; rintro e w' ⟨rfl, rfl⟩)
  go_ret
  exact ⟨rfl, rfl⟩
theorem isDigit_any (x : Int) (w : World) :
    Calls Tryd.prog 120 #[.int .u8 x] w fun e w' => e = .returned (.bool (dg x)) ∧ w = w' := by
  go_enter Tryd.func120, Tryd.ntmps120
  go_wp2_with (go_at_call 145; refine (withinB_any _ _ _ _).mono ?_; rintro e w' ⟨rfl, rfl⟩)
  go_ret
  exact ⟨rfl, rfl⟩
theorem l01Small_any (x : Int) (w : World) :
    Calls Tryd.prog 117 #[.int .u8 x] w fun e w' => e = .returned (.bool (lo x)) ∧ w = w' := by
  by_cases h1 : 97 ≤ x
  · go_enter Tryd.func117, Tryd.ntmps117
    go_wp2
    go_ret
    exact ⟨ret_bool (by unfold lo Ar.inB; simp [h1]), rfl⟩
  · go_enter Tryd.func117, Tryd.ntmps117
    go_wp2
    go_ret
    exact ⟨ret_bool (by rw [lo, Ar.inB_f]; omega), rfl⟩
theorem l01Digit_any (x : Int) (w : World) :
    Calls Tryd.prog 95 #[.int .u8 x] w fun e w' => e = .returned (.bool (dg x)) ∧ w = w' := by
  by_cases h1 : 48 ≤ x
  · go_enter Tryd.func95, Tryd.ntmps95
    go_wp2
    go_ret
    exact ⟨ret_bool (by unfold dg Ar.inB; simp [h1]), rfl⟩
  · go_enter Tryd.func95, Tryd.ntmps95
    go_wp2
    go_ret
    exact ⟨ret_bool (by rw [dg, Ar.inB_f]; omega), rfl⟩

/-- a letter or a digit -/
def ch (c : UInt8) : Bool := lo c.toNat || dg c.toNat
/-- a name: 1 to 10 bytes, a letter first, letters and digits alone -/
def nm (l : List UInt8) : Bool := decide (1 ≤ l.length ∧ l.length ≤ 10) && (match l with | [] => false | c :: _ => lo c.toNat) && l.all ch


theorem take_snoc (s : ByteArray) (k : Nat) (h : k < s.size) : s.data.toList.take (k + 1) = s.data.toList.take k ++ [s[k]] := by
  rw [List.take_succ_eq_append_getElem (by simpa using h)]; rfl
theorem nm_len {l : List UInt8} (h : ¬ (1 ≤ l.length ∧ l.length ≤ 10)) : nm l = false := by
  unfold nm; rw [decide_eq_false h]; rfl
theorem head_split (s : ByteArray) (h : 0 < s.size) : s.data.toList = s[0] :: s.data.toList.tail := by
  have hlen : s.data.toList.length = s.size := by simp
  have : s.data.toList ≠ [] := by intro hc; rw [hc] at hlen; simp at hlen; omega
  obtain ⟨c, r, hr⟩ := List.exists_cons_of_ne_nil this
  have h0 : s[0] = c := by
    show s.data.toList[0]'(by omega) = c
    simp [hr]
  rw [h0, hr]; rfl
theorem nm_head {s : ByteArray} (h : 0 < s.size) (hl : lo s[0].toNat = false) : nm s.data.toList = false := by
  rw [head_split s h]; unfold nm; simp [hl]
theorem nm_all {s : ByteArray} (h : 0 < s.size) (h' : s.size ≤ 10) (hl : lo s[0].toNat = true) : nm s.data.toList = s.data.toList.all ch := by
  have hlen : s.data.toList.length = s.size := by simp
  unfold nm
  have : decide (1 ≤ s.data.toList.length ∧ s.data.toList.length ≤ 10) = true := decide_eq_true ⟨by omega, by omega⟩
  rw [this, Bool.true_and]
  generalize hx : s.data.toList.all ch = x
  rw [head_split s h]
  simp [hl]
theorem all_take_false {l : List UInt8} {k : Nat} (h : (l.take k).all ch = false) : l.all ch = false := by
  rw [← List.take_append_drop k l, List.all_append, h]; rfl
theorem all_step {s : ByteArray} {k : Nat} (h : k < s.size) (hp : (s.data.toList.take k).all ch = true) : (s.data.toList.take (k + 1)).all ch = ch s[k] := by
  rw [take_snoc s k h, List.all_append, hp]; simp

set_option maxHeartbeats 800000 in
theorem implIsName_any (s : ByteArray) (w : World) (hs : s.size ≤ 1048576) :
    Calls Tryd.prog 91 #[.string s] w fun e w' => e = .returned (.bool (nm s.data.toList)) ∧ w = w' := by
  by_cases h0 : 1 ≤ s.size ∧ s.size ≤ 10
  · have hi : Ar.inB 1 (s.size : Int) 10 = true := Ar.inB_t (by omega) (by omega)
    obtain ⟨h1, h2⟩ := h0
    by_cases hl : lo (s[0]'(by omega)).toNat = true
    · have hn := Lib.hid (nm_all h1 h2 hl)
      go_enter Tryd.func91, Tryd.ntmps91
      go_wp2_with (first | (go_at_call 118; refine (withinI_any _ _ _ _).mono ?_; rintro e w' ⟨rfl, rfl⟩) | (go_at_call 119; refine (isLetter_any _ _).mono ?_; rintro e w' ⟨rfl, rfl⟩))
      go_loop [16] (fun i => ∃ k : Nat, k ≤ s.size ∧ i = .int .i64 k ∧ Hid ((s.data.toList.take k).all ch = true)) (fun i => s.size - (intOf i).toNat)
      case atStart => exact ⟨0, Nat.zero_le _, rfl, Lib.hid rfl⟩
      case round =>
        obtain ⟨k, hk, rfl, hp⟩ := hrel
        by_cases hlt : k < s.size
        · have hst := Lib.hid (all_step hlt hp.out)
          by_cases c1 : lo s[k].toNat = true
          · have hc : ch s[k] = true := by unfold ch; rw [c1]; rfl
            have hnx := Lib.hid (hst.out.trans hc)
            clear hc hst
            go_wp2_with (first | (go_at_call 119; refine (isLetter_any _ _).mono ?_; rintro e w' ⟨rfl, rfl⟩) | (go_at_call 120; refine (isDigit_any _ _).mono ?_; rintro e w' ⟨rfl, rfl⟩))
            go_round
            case rel => exact ⟨k + 1, by omega, by go_num, hnx⟩
            case measure => simp [intOf]; omega
          · have c1' : lo s[k].toNat = false := by simpa using c1
            clear c1
            by_cases c2 : dg s[k].toNat = true
            · have hc : ch s[k] = true := by unfold ch; rw [c2]; simp
              have hnx := Lib.hid (hst.out.trans hc)
              clear hc hst
              go_wp2_with (first | (go_at_call 119; refine (isLetter_any _ _).mono ?_; rintro e w' ⟨rfl, rfl⟩) | (go_at_call 120; refine (isDigit_any _ _).mono ?_; rintro e w' ⟨rfl, rfl⟩))
              go_round
              case rel => exact ⟨k + 1, by omega, by go_num, hnx⟩
              case measure => simp [intOf]; omega
            · have c2' : dg s[k].toNat = false := by simpa using c2
              clear c2
              have hc : ch s[k] = false := by unfold ch; rw [c1', c2']; rfl
              have hnx := Lib.hid (hn.out.trans (all_take_false (hst.out.trans hc)))
              clear hc hst
              go_wp2_with (first | (go_at_call 119; refine (isLetter_any _ _).mono ?_; rintro e w' ⟨rfl, rfl⟩) | (go_at_call 120; refine (isDigit_any _ _).mono ?_; rintro e w' ⟨rfl, rfl⟩))
              go_ret
              exact ⟨ret_bool hnx.out.symm, rfl⟩
        · have he : Hid (s.data.toList.all ch = true) := Lib.hid (by have := hp.out; rwa [List.take_of_length_le (by simp; omega)] at this)
          go_wp2
          go_ret
          exact ⟨ret_bool (hn.out.trans he.out).symm, rfl⟩
    · have hl' : lo (s[0]'(by omega)).toNat = false := by simpa using hl
      have hn := Lib.hid (nm_head (by omega) hl')
      clear hl
      go_enter Tryd.func91, Tryd.ntmps91
      go_wp2_with (first | (go_at_call 118; refine (withinI_any _ _ _ _).mono ?_; rintro e w' ⟨rfl, rfl⟩) | (go_at_call 119; refine (isLetter_any _ _).mono ?_; rintro e w' ⟨rfl, rfl⟩))
      go_ret
      exact ⟨ret_bool hn.out.symm, rfl⟩
  · have hi : Ar.inB 1 (s.size : Int) 10 = false := Ar.inB_f (by omega)
    have hn := Lib.hid (nm_len (l := s.data.toList) (by simpa using h0))
    clear h0
    go_enter Tryd.func91, Tryd.ntmps91
    go_wp2_with (first | (go_at_call 118; refine (withinI_any _ _ _ _).mono ?_; rintro e w' ⟨rfl, rfl⟩) | (go_at_call 119; refine (isLetter_any _ _).mono ?_; rintro e w' ⟨rfl, rfl⟩))
    go_ret
    exact ⟨ret_bool hn.out.symm, rfl⟩
set_option maxHeartbeats 800000 in
theorem l01Name_any (s : ByteArray) (w : World) (hs : s.size ≤ 1048576) :
    Calls Tryd.prog 86 #[.string s] w fun e w' => e = .returned (.bool (nm s.data.toList)) ∧ w = w' := by
  have hlen : s.data.toList.length = s.size := by simp
  by_cases h0 : 1 ≤ s.size ∧ s.size ≤ 10
  · obtain ⟨h1, h2⟩ := h0
    have hne : s.toList.isEmpty = false := by rw [List.isEmpty_eq_false_iff]; intro hc; have : s.toList = s.data.toList := ByteArray.toList_eq s; rw [this] at hc; rw [hc] at hlen; simp at hlen; omega
    clear hlen
    by_cases hl : lo (s[0]'(by omega)).toNat = true
    · have hn := Lib.hid (nm_all h1 h2 hl)
      go_enter Tryd.func86, Tryd.ntmps86
      go_wp2_with (first | (go_at_call 117; refine (l01Small_any _ _).mono ?_; rintro e w' ⟨rfl, rfl⟩) | (go_at_call 95; refine (l01Digit_any _ _).mono ?_; rintro e w' ⟨rfl, rfl⟩))
      go_loop [3] (fun i => ∃ k : Nat, k ≤ s.size ∧ i = .int .i64 k ∧ Hid ((s.data.toList.take k).all ch = true)) (fun i => s.size - (intOf i).toNat)
      case atStart => exact ⟨0, Nat.zero_le _, rfl, Lib.hid rfl⟩
      case round =>
        obtain ⟨k, hk, rfl, hp⟩ := hrel
        by_cases hlt : k < s.size
        · have hst := Lib.hid (all_step hlt hp.out)
          by_cases c1 : lo s[k].toNat = true
          · have hc : ch s[k] = true := by unfold ch; rw [c1]; rfl
            have hnx := Lib.hid (hst.out.trans hc)
            clear hc hst
            go_wp2_with (first | (go_at_call 117; refine (l01Small_any _ _).mono ?_; rintro e w' ⟨rfl, rfl⟩) | (go_at_call 95; refine (l01Digit_any _ _).mono ?_; rintro e w' ⟨rfl, rfl⟩))
            go_round
            case rel => exact ⟨k + 1, by omega, by go_num, hnx⟩
            case measure => simp [intOf]; omega
          · have c1' : lo s[k].toNat = false := by simpa using c1
            clear c1
            by_cases c2 : dg s[k].toNat = true
            · have hc : ch s[k] = true := by unfold ch; rw [c2]; simp
              have hnx := Lib.hid (hst.out.trans hc)
              clear hc hst
              go_wp2_with (first | (go_at_call 117; refine (l01Small_any _ _).mono ?_; rintro e w' ⟨rfl, rfl⟩) | (go_at_call 95; refine (l01Digit_any _ _).mono ?_; rintro e w' ⟨rfl, rfl⟩))
              go_round
              case rel => exact ⟨k + 1, by omega, by go_num, hnx⟩
              case measure => simp [intOf]; omega
            · have c2' : dg s[k].toNat = false := by simpa using c2
              clear c2
              have hc : ch s[k] = false := by unfold ch; rw [c1', c2']; rfl
              have hnx := Lib.hid (hn.out.trans (all_take_false (hst.out.trans hc)))
              clear hc hst
              go_wp2_with (first | (go_at_call 117; refine (l01Small_any _ _).mono ?_; rintro e w' ⟨rfl, rfl⟩) | (go_at_call 95; refine (l01Digit_any _ _).mono ?_; rintro e w' ⟨rfl, rfl⟩))
              go_ret
              exact ⟨ret_bool hnx.out.symm, rfl⟩
        · have he : Hid (s.data.toList.all ch = true) := Lib.hid (by have := hp.out; rwa [List.take_of_length_le (by simp; omega)] at this)
          go_wp2
          go_ret
          exact ⟨ret_bool (hn.out.trans he.out).symm, rfl⟩
    · have hl' : lo (s[0]'(by omega)).toNat = false := by simpa using hl
      have hn := Lib.hid (nm_head (by omega) hl')
      clear hl
      go_enter Tryd.func86, Tryd.ntmps86
      go_wp2_with (first | (go_at_call 117; refine (l01Small_any _ _).mono ?_; rintro e w' ⟨rfl, rfl⟩) | (go_at_call 95; refine (l01Digit_any _ _).mono ?_; rintro e w' ⟨rfl, rfl⟩))
      go_ret
      exact ⟨ret_bool hn.out.symm, rfl⟩
  · have hn := Lib.hid (nm_len (l := s.data.toList) (by simpa using h0))
    by_cases hz : s.size = 0
    · have hne : s.toList.isEmpty = true := by rw [List.isEmpty_iff]; have : s.toList = s.data.toList := ByteArray.toList_eq s; rw [this]; exact List.eq_nil_of_length_eq_zero (by omega)
      clear h0 hlen hz
      go_enter Tryd.func86, Tryd.ntmps86
      go_wp2_with (first | (go_at_call 117; refine (l01Small_any _ _).mono ?_; rintro e w' ⟨rfl, rfl⟩) | (go_at_call 95; refine (l01Digit_any _ _).mono ?_; rintro e w' ⟨rfl, rfl⟩))
      go_ret
      exact ⟨ret_bool hn.out.symm, rfl⟩
    · have hne : s.toList.isEmpty = false := by rw [List.isEmpty_eq_false_iff]; intro hc; have : s.toList = s.data.toList := ByteArray.toList_eq s; rw [this] at hc; rw [hc] at hlen; simp at hlen; omega
      have hbig : 10 < s.size := by omega
      clear h0 hlen hz
      go_enter Tryd.func86, Tryd.ntmps86
      go_wp2_with (first | (go_at_call 117; refine (l01Small_any _ _).mono ?_; rintro e w' ⟨rfl, rfl⟩) | (go_at_call 95; refine (l01Digit_any _ _).mono ?_; rintro e w' ⟨rfl, rfl⟩))
      go_ret
      exact ⟨ret_bool hn.out.symm, rfl⟩
end Go.Proofs.YtaldmdammipfjaaDoor

import Derived.Test.YtoopjefalkdpkaaNum
import Derived.Laws.BitsAllLaws
namespace Go.Proofs.Ytoopjefalkdpkaa
open Go.RowKit
set_option linter.unusedVariables false

/-- one doubling of the check value -/
def cstep (c : Nat) : Nat := if c < 32768 then 2 * c else (2 * c - 65536) ^^^ 4129
def cit : Nat → Nat → Nat
  | 0, c => c
  | j + 1, c => cstep (cit j c)
/-- the check value behind one byte, and behind all -/
def cbyte (c : Nat) (b : UInt8) : Nat := cit 8 (c ^^^ (b.toNat * 256))
def ccrc (l : List UInt8) (c : Nat) : Nat := l.foldl cbyte c


theorem ofInt64 (a : Nat) (ha : a < 4611686018427387904) : (BitVec.ofInt 64 (a : Int)).toNat = a := by
  rw [BitVec.ofInt_natCast, BitVec.toNat_ofNat]; exact Nat.mod_eq_of_lt (by omega)
theorem i64_xor_nat (a b : Nat) (ha : a < 4611686018427387904) (hb : b < 4611686018427387904) : bits .xor .i64 (a : Int) (b : Int) = ((a ^^^ b : Nat) : Int) := by
  have hx : a ^^^ b < 2 ^ 62 := Nat.xor_lt_two_pow (by omega) (by omega)
  show IntKind.i64.wrap ((BitVec.ofInt 64 (a : Int) ^^^ BitVec.ofInt 64 (b : Int)).toNat : Int) = _
  rw [BitVec.toNat_xor, ofInt64 a ha, ofInt64 b hb]
  exact IntWalk.i64_in _ (by omega)
theorem i64_and_nat (a b : Nat) (ha : a < 4611686018427387904) (hb : b < 4611686018427387904) : bits .and .i64 (a : Int) (b : Int) = ((a &&& b : Nat) : Int) := by
  have hx : a &&& b < 2 ^ 62 := Nat.and_lt_two_pow _ (by omega)
  show IntKind.i64.wrap ((BitVec.ofInt 64 (a : Int) &&& BitVec.ofInt 64 (b : Int)).toNat : Int) = _
  rw [BitVec.toNat_and, ofInt64 a ha, ofInt64 b hb]
  exact IntWalk.i64_in _ (by omega)

theorem cstep_lt (e : Nat) (he : e < 65536) : cstep e < 65536 := by
  unfold cstep; split
  · omega
  · exact Nat.xor_lt_two_pow (n := 16) (by omega) (by omega)
/-- the program's step is the step -/
theorem cstep_impl (e : Nat) (he : e < 65536) : bits .xor .u16 (IntKind.u16.wrap ((e : Int) * 2)) ((e : Int) / 32768 * 4129) = (cstep e : Int) := by
  unfold cstep
  rw [IntKind.wrap_u16]
  split
  · have e1 : (e : Int) * 2 % 65536 = ((2 * e : Nat) : Int) := by omega
    have e2 : (e : Int) / 32768 * 4129 = ((0 : Nat) : Int) := by omega
    rw [e1, e2, u16_xor_nat _ _ (by omega) (by omega), Nat.xor_zero]
  · have e1 : (e : Int) * 2 % 65536 = ((2 * e - 65536 : Nat) : Int) := by omega
    have e2 : (e : Int) / 32768 * 4129 = ((4129 : Nat) : Int) := by omega
    rw [e1, e2, u16_xor_nat _ _ (by omega) (by omega)]
/-- the model's step is the step -/
theorem cstep_lo (e : Nat) (he : e < 32768) : (cstep e : Int) = (e : Int) * 2 := by
  unfold cstep; rw [if_pos he]; omega
theorem cstep_hi (e : Nat) (h : ¬ e < 32768) (he : e < 65536) : bits .xor .i64 (bits .and .i64 ((e : Int) * 2) 65535) 4129 = (cstep e : Int) := by
  have e1 : (e : Int) * 2 = ((e * 2 : Nat) : Int) := by omega
  rw [e1, show (65535 : Int) = ((65535 : Nat) : Int) from rfl, i64_and_nat _ _ (by omega) (by omega), show (65535 : Nat) = 2 ^ 16 - 1 from rfl, Nat.and_two_pow_sub_one_eq_mod,
    show (4129 : Int) = ((4129 : Nat) : Int) from rfl, i64_xor_nat _ _ (by omega) (by omega)]
  unfold cstep; rw [if_neg h]
  rw [show e * 2 % 2 ^ 16 = 2 * e - 65536 from by omega]
theorem ccrc_step (s : ByteArray) (k c : Nat) (h : k < s.size) : ccrc (s.data.toList.take (k + 1)) c = cit 8 (ccrc (s.data.toList.take k) c ^^^ (s[k].toNat * 256)) := by
  rw [List.take_succ_eq_append_getElem (by simpa using h)]
  unfold ccrc; rw [List.foldl_append, List.foldl_cons, List.foldl_nil, cbyte]; simp only [ByteArray.getElem_eq_getElem_data, Array.getElem_toList]
theorem ccrc_all (s : ByteArray) (k c : Nat) (h : s.size ≤ k) : ccrc (s.data.toList.take k) c = ccrc s.data.toList c := by
  rw [List.take_of_length_le (by simpa using h)]

set_option maxHeartbeats 800000 in
theorem implCrc_in (s : ByteArray) (c : Nat) (w : World) (hs : s.size ≤ 1048576) (hc : c < 65536) :
    Calls Try.prog 17 #[.string s, .int .i64 c] w fun e w' => e = .returned (.int .i64 (ccrc s.data.toList c)) ∧ w = w' := by
  have hi : Ar.inB 0 (c : Int) 65535 = true := Ar.inB_t (by omega) (by omega)
  go_enter Try.func17, Try.ntmps17
  go_wp2_with (go_at_call 34; refine (within_any _ _ _ _).mono ?_; rintro e w' ⟨rfl, rfl⟩)
  go_loop [5, 15] (fun x i => ∃ k : Nat, k ≤ s.size ∧ i = .int .i64 k ∧ ∃ d : Nat, d < 65536 ∧ x = .int .u16 d ∧ Hid (ccrc (s.data.toList.take k) c = d)) (fun _ i => s.size - (intOf i).toNat)
  case atStart => exact ⟨0, Nat.zero_le _, rfl, c, hc, rfl, Lib.hid rfl⟩
  case round =>
    obtain ⟨k, hk, rfl, d, hd, rfl, hp⟩ := hrel
    by_cases hlt : k < s.size
    · have hb : s[k].toNat < 256 := s[k].toNat_lt
      have hb' : (s[k].toNat : Int) < 256 := by omega
      have hm : d ^^^ (s[k].toNat * 256) < 65536 := Nat.xor_lt_two_pow (n := 16) hd (by omega)
      have hx : bits BinOp.xor IntKind.u16 (d : Int) ((s[k].toNat : Int) * 256) = ((d ^^^ (s[k].toNat * 256) : Nat) : Int) := u16_xor_nat d (s[k].toNat * 256) hd (by omega)
      generalize hmm : d ^^^ (s[k].toNat * 256) = m at *
      have Hm := Lib.hid hmm
      clear hmm
      go_wp2
      clear hx hb hb'
      go_loop [5, 25] (fun x i => ∃ j : Nat, j ≤ 8 ∧ i = .int .i64 j ∧ ∃ e : Nat, e < 65536 ∧ x = .int .u16 e ∧ Hid (cit j m = e)) (fun _ i => 8 - (intOf i).toNat)
      case atStart => exact ⟨0, by omega, rfl, m, hm, rfl, Lib.hid rfl⟩
      case round =>
        obtain ⟨j, hj, rfl, e, he, rfl, hq⟩ := hrel
        by_cases hjt : j < 8
        · have hs1 := cstep_impl e he
          have hs2 := cstep_lt e he
          have hq' : Hid (cit (j + 1) m = cstep e) := Lib.hid (by show cstep (cit j m) = _; rw [hq.out])
          generalize cstep e = e2 at *
          go_wp2
          exact ⟨⟨j + 1, by omega, by go_num, e2, hs2, rfl, hq'⟩, by simp [intOf]; omega⟩
        · obtain rfl : j = 8 := by omega
          go_wp2
          exact ⟨⟨k + 1, by omega, by go_num, e, he, rfl, Lib.hid (by rw [ccrc_step s k c hlt, hp.out, Hm.out, hq.out])⟩, by simp [intOf]; omega⟩
    · have hfin := Lib.hid (ccrc_all s k c (by omega))
      go_wp2
      go_ret
      exact ⟨ret_int (by rw [← hfin.out, hp.out]), rfl⟩

set_option maxHeartbeats 800000 in
theorem l01Crc_in (s : ByteArray) (c : Nat) (w : World) (hs : s.size ≤ 1048576) (hc : c < 65536) :
    Calls Try.prog 33 #[.string s, .int .i64 c] w fun e w' => e = .returned (.int .i64 (ccrc s.data.toList c)) ∧ w = w' := by
  go_enter Try.func33, Try.ntmps33
  go_wp2_with fail
  go_loop [1, 5] (fun x i => ∃ k : Nat, k ≤ s.size ∧ i = .int .i64 k ∧ ∃ d : Nat, d < 65536 ∧ x = .int .i64 d ∧ Hid (ccrc (s.data.toList.take k) c = d)) (fun _ i => s.size - (intOf i).toNat)
  case atStart => exact ⟨0, Nat.zero_le _, rfl, c, hc, rfl, Lib.hid rfl⟩
  case round =>
    obtain ⟨k, hk, rfl, d, hd, rfl, hp⟩ := hrel
    by_cases hlt : k < s.size
    · have hb : s[k].toNat < 256 := s[k].toNat_lt
      have hb' : (s[k].toNat : Int) < 256 := by omega
      have hm : d ^^^ (s[k].toNat * 256) < 65536 := Nat.xor_lt_two_pow (n := 16) hd (by omega)
      have hx : bits BinOp.xor IntKind.i64 (d : Int) ((s[k].toNat : Int) * 256) = ((d ^^^ (s[k].toNat * 256) : Nat) : Int) := i64_xor_nat d (s[k].toNat * 256) (by omega) (by omega)
      generalize hmm : d ^^^ (s[k].toNat * 256) = m at *
      have Hm := Lib.hid hmm
      clear hmm
      go_wp2
      clear hx hb hb'
      go_loop [1, 6] (fun x i => ∃ j : Nat, j ≤ 8 ∧ i = .int .i64 j ∧ ∃ e : Nat, e < 65536 ∧ x = .int .i64 e ∧ Hid (cit j m = e)) (fun _ i => 8 - (intOf i).toNat)
      case atStart => exact ⟨0, by omega, rfl, m, hm, rfl, Lib.hid rfl⟩
      case round =>
        obtain ⟨j, hj, rfl, e, he, rfl, hq⟩ := hrel
        by_cases hjt : j < 8
        · have hs2 := cstep_lt e he
          have hq' : Hid (cit (j + 1) m = cstep e) := Lib.hid (by show cstep (cit j m) = _; rw [hq.out])
          by_cases hlow : e < 32768
          · have hs1 := cstep_lo e hlow
            generalize cstep e = e2 at *
            have hs1' := Lib.hid hs1
            clear hs1
            go_wp2
            exact ⟨⟨j + 1, by omega, by go_num, e2, hs2, by rw [hs1'.out], hq'⟩, by simp [intOf]; omega⟩
          · have hs1 := cstep_hi e hlow he
            generalize cstep e = e2 at *
            go_wp2
            exact ⟨⟨j + 1, by omega, by go_num, e2, hs2, rfl, hq'⟩, by simp [intOf]; omega⟩
        · obtain rfl : j = 8 := by omega
          go_wp2
          exact ⟨⟨k + 1, by omega, by go_num, e, he, rfl, Lib.hid (by rw [ccrc_step s k c hlt, hp.out, Hm.out, hq.out])⟩, by simp [intOf]; omega⟩
    · have hfin := Lib.hid (ccrc_all s k c (by omega))
      go_wp2
      go_ret
      exact ⟨ret_int (by rw [← hfin.out, hp.out]), rfl⟩
/-- the check value of chapter 1 -/
def crcAll (l : List UInt8) (a : Int) : Int := if 0 ≤ a ∧ a ≤ 65535 then (ccrc l a.toNat : Int) else 0
theorem implCrc16_any (s : ByteArray) (a : Int) (w : World) (hs : s.size ≤ 1048576) :
    Calls Try.prog 17 #[.string s, .int .i64 a] w fun e w' => e = .returned (.int .i64 (crcAll s.data.toList a)) ∧ w = w' := by
  by_cases h : 0 ≤ a ∧ a ≤ 65535
  · obtain ⟨c, rfl⟩ := Int.eq_ofNat_of_zero_le h.1
    refine (implCrc_in s c w hs (by omega)).mono ?_
    rintro e w' ⟨rfl, rfl⟩
    exact ⟨ret_int (by unfold crcAll; rw [if_pos h]; rfl), rfl⟩
  · have hi : Ar.inB 0 a 65535 = false := Ar.inB_f h
    have hd : Hid (crcAll s.data.toList a = 0) := Lib.hid (by unfold crcAll; rw [if_neg h])
    clear h
    go_enter Try.func17, Try.ntmps17
    go_wp2_with (go_at_call 34; refine (within_any _ _ _ _).mono ?_; rintro e w' ⟨rfl, rfl⟩)
    go_ret
    exact ⟨ret_int hd.out.symm, rfl⟩
theorem specCrc16_any (s : ByteArray) (a : Int) (w : World) (hs : s.size ≤ 1048576) :
    Calls Try.prog 16 #[.string s, .int .i64 a] w fun e w' => e = .returned (.int .i64 (crcAll s.data.toList a)) ∧ w = w' := by
  by_cases h : 0 ≤ a ∧ a ≤ 65535
  · have hi : Ar.inB 0 a 65535 = true := Ar.inB_t h.1 h.2
    obtain ⟨c, rfl⟩ := Int.eq_ofNat_of_zero_le h.1
    have hd : Hid (crcAll s.data.toList c = ccrc s.data.toList c) := Lib.hid (by unfold crcAll; rw [if_pos h]; rfl)
    go_enter Try.func16, Try.ntmps16
    go_wp2_with (first | (go_at_call 32; refine (l00In_any _ _ _ _).mono ?_; rintro e w' ⟨rfl, rfl⟩) | (go_at_call 33; refine (l01Crc_in s c _ hs (by omega)).mono ?_; rintro e w' ⟨rfl, rfl⟩))
    go_ret
    exact ⟨ret_int hd.out.symm, rfl⟩
  · have hi : Ar.inB 0 a 65535 = false := Ar.inB_f h
    have hd : Hid (crcAll s.data.toList a = 0) := Lib.hid (by unfold crcAll; rw [if_neg h])
    clear h
    go_enter Try.func16, Try.ntmps16
    go_wp2_with (go_at_call 32; refine (l00In_any _ _ _ _).mono ?_; rintro e w' ⟨rfl, rfl⟩)
    go_ret
    exact ⟨ret_int hd.out.symm, rfl⟩
end Go.Proofs.Ytoopjefalkdpkaa

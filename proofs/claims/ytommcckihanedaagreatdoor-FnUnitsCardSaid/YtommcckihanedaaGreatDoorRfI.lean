/-
  The program's ReadFixed: Replace, ParseInt, and FixedText once more. Conditions: a text of at most 2^20 bytes; the library's table of powers of ten, its two errors and MaxLen hold what is laid.
-/
import Derived.Test.YtommcckihanedaaGreatDoorFixI
import Derived.Test.YtommcckihanedaaGreatDoorFxM
import Derived.Test.YtommcckihanedaaGreatDoorShelfC
import Derived.Test.YtommcckihanedaaGreatDoorRdF
import Derived.LaidLaws
import Derived.Lib.AtoiErrMem
import Derived.Shelf.Strconv.ErrVarParseInt
namespace Go.Proofs.YtommcckihanedaaGreatDoor
open Go.RowKit
set_option linter.unusedVariables false
set_option linter.unusedSimpArgs false

/-- the two errors of the library that a reader may hand out, as a world holds them: some interface value each -/
def Errs (w : World) : Prop := (∃ tp p, w.var? Tryz.prog "strconv.ErrSyntax" = some #[.iface tp p]) ∧ ∃ tp p, w.var? Tryz.prog "strconv.ErrRange" = some #[.iface tp p]
theorem gSyn : Tryz.prog.globalNamed "strconv.ErrSyntax" = some 1 := by kernel_rfl
theorem gRan : Tryz.prog.globalNamed "strconv.ErrRange" = some 2 := by kernel_rfl
theorem tSyn : (Tryz.prog.globals[1]?).map (·.type) = some 50 := by kernel_rfl
theorem tRan : (Tryz.prog.globals[2]?).map (·.type) = some 50 := by kernel_rfl
theorem uErr : ∃ ms, Tryz.prog.underlying 50 = some (.interface ms) := ⟨_, Tryz.underlying50⟩
set_option maxRecDepth 100000 in
theorem iface_var {w : World} {n nm : String} {g : Nat} {d : DataW Unit} {rest : List (String × DataW Unit)} (hg : Tryz.prog.globalNamed n = some g) (ht : (Tryz.prog.globals[g]?).map (·.type) = some 50) (h : laidMet Tryz.prog ((n, .iface nm d) :: rest) w) :
    ∃ tp p, w.var? Tryz.prog n = some #[.iface tp p] := by
  obtain ⟨ps, ⟨g', t, cs, fuel, p, q, hg', ht', hvar, hd, _, _⟩, _⟩ := h
  obtain rfl := Option.some.inj (hg.symm.trans hg')
  obtain rfl := Option.some.inj (ht.symm.trans ht')
  obtain ⟨ms, hm⟩ := uErr
  obtain ⟨_, u, v, hcs, _⟩ := iface_of_trod hm hd
  refine ⟨u, v, ?_⟩
  rw [hvar]
  congr 1
  exact Array.toList_inj.1 (by rw [hcs])
theorem errs_of {l : List (String × DataW Unit)} {w : World} (h : laidMet Tryz.prog l w)
    (hf1 : (l.filter fun x => x.1 == "strconv.ErrSyntax") = [("strconv.ErrSyntax", Rows.laid_strconv_ErrSyntax)]) (hf2 : (l.filter fun x => x.1 == "strconv.ErrRange") = [("strconv.ErrRange", Rows.laid_strconv_ErrRange)]) : Errs w := by
  have h1 := laidMet.filter (fun x => x.1 == "strconv.ErrSyntax") h
  have h2 := laidMet.filter (fun x => x.1 == "strconv.ErrRange") h
  rw [hf1] at h1
  rw [hf2] at h2
  unfold Rows.laid_strconv_ErrSyntax at h1
  unfold Rows.laid_strconv_ErrRange at h2
  exact ⟨iface_var gSyn tSyn h1, iface_var gRan tRan h2⟩
theorem Errs.below {w w1 : World} (h : Errs w) (hb : Below w.heap.size w w1) : Errs w1 := by
  obtain ⟨⟨a, b, h1⟩, ⟨c, d, h2⟩⟩ := h
  exact ⟨⟨a, b, var?_below hb gSyn (var_lt gSyn h1) h1⟩, ⟨c, d, var?_below hb gRan (var_lt gRan h2) h2⟩⟩
/-- ParseInt where the text is a number -/
theorem parse_yes (s : ByteArray) (hs : s.size ≤ 1048576) (v : Int) (h : Lib.parseIntB 64 s.data.toList = .ok v) (w : World) :
    Calls Tryz.prog 29 #[.string s, .int .i64 10, .int .i64 64] w fun e w' => e = .returned (.tuple #[.int .i64 v, .nilIface]) ∧ Below w.heap.size w w' :=
  (Tryz.strconv_ParseInt_10_at64_ok s (by omega) v h w).mono (fun e w' h => ⟨h.1, by
    rcases h.2 with h | ⟨t, h⟩
    · rw [h]; exact Below.refl _ _
    · rw [h]; exact Lib.bytesWorld_below _ _ _⟩)
/-- what ParseInt hands out where the text is none -/
def ErrEnd (w : World) (e : Ending) (w' : World) : Prop := ∃ (z : Int) (t : TypeId) (a : Addr), e = .returned (.tuple #[.int .i64 z, .iface t (.pointer (some a))]) ∧ Below w.heap.size w w'
theorem parse_no (s : ByteArray) (hs : s.size ≤ 1048576) (h : ∀ v, Lib.parseIntB 64 s.data.toList ≠ .ok v) (w : World) (hE : Errs w) :
    Calls Tryz.prog 29 #[.string s, .int .i64 10, .int .i64 64] w (ErrEnd w) := by
  obtain ⟨⟨a, b, h1⟩, ⟨c, d, h2⟩⟩ := hE
  rcases hp : Lib.parseIntB 64 s.data.toList with v | _ | _
  · exact absurd hp (h v)
  · exact (Any.strconv_ParseInt_10_at64_syntax_var Tryz.laysC174 s (by omega) hp a b w h1).mono (fun e w' ⟨N, he, _, _, hb⟩ => ⟨_, _, _, he, hb⟩)
  · exact (Any.strconv_ParseInt_10_at64_range_var Tryz.laysC174 s (by omega) hp c d w h2).mono (fun e w' ⟨N, he, _, _, hb⟩ => ⟨_, _, _, he, hb⟩)
theorem parse_bd {l : List UInt8} {v : Int} (h : Lib.parseIntB 64 l = .ok v) : -9223372036854775808 ≤ v ∧ v ≤ 9223372036854775807 := by
  unfold Lib.parseIntB at h
  split at h
  · cases h
  · simp only at h
    split at h
    · cases h
    · cases h
    · split at h
      · cases h
      · split at h
        · cases h
        · simp only [Lib.NumEnd.ok.injEq] at h
          subst h
          split <;> omega
theorem rep_len (l : List UInt8) : (Lib.replace l [46] [] 1).length ≤ l.length := by
  rcases Fd.idx_two 46 l with ⟨_, h⟩ | ⟨a, b, rfl, ha, _⟩
  · have : ∀ k, Lib.replaceK [46] [] k l = l := by
      intro k
      cases k with
      | zero => rfl
      | succ k => rw [Lib.replaceK, h]; rfl
    unfold Lib.replace
    rw [if_neg (by decide), this]
    exact Nat.le_refl _
  · rw [Fx.rep_point ha]; simp
theorem replace_any (s : ByteArray) (w : World) (hs : s.size ≤ 1048576) (hm : MaxN w) :
    Calls Tryz.prog 30 #[.string s, .string ⟨#[46]⟩, .string ⟨#[]⟩, .int .i64 1] w (Str (Lib.replace s.data.toList [46] [] 1) w) := by
  obtain ⟨m, hm⟩ := hm
  refine (Any.strings_Replace { Tryz.laysM154 with } Tryz.Builder_Extra_M154 s ⟨#[46]⟩ ⟨#[]⟩ 1 m w (by omega) hm (Nat.le_refl 1) (by show s.size + _ * 0 ≤ _; omega)).mono ?_
  rintro e w' ⟨rfl, hb⟩
  exact Str.mk (mk_data _) hb
theorem ret_fx {l : List UInt8} {p : Int} {o : Option Int} {e : Ending} {w w' : World} (h : Fx.RFx l p o) (he : e = .returned (.tuple #[.int .i64 (o.getD 0), .bool o.isSome])) (hb : Below w.heap.size w w') :
    ∃ o, Fx.RFx l p o ∧ e = .returned (.tuple #[.int .i64 (o.getD 0), .bool o.isSome]) ∧ Below w.heap.size w w' := ⟨o, h, he, hb⟩
set_option maxRecDepth 100000 in
set_option maxHeartbeats 3200000 in
theorem implReadFixed_any (s : ByteArray) (p : Int) (w : World) (hs : s.size ≤ 1048576) (hp : Pow w) (hE : Errs w) (hm : MaxN w) :
    Calls Tryz.prog 10 #[.string s, .int .i64 p] w fun e w' => ∃ o, Fx.RFx s.data.toList p o ∧ e = .returned (.tuple #[.int .i64 (o.getD 0), .bool o.isSome]) ∧ Below w.heap.size w w' := by
  have HP := Lib.hid hp
  have HE := Lib.hid hE
  have C1 := Lib.hid (replace_any s w hs hm)
  have hrl := rep_len s.data.toList
  have hsl : s.data.toList.length = s.size := by simp
  have HF : Hid (∀ n : Int, (-1000000000 ≤ n ∧ n ≤ 1000000000) → Dg.fx n p.toNat = s.data.toList → Lib.parseIntB 64 (Lib.replace s.data.toList [46] [] 1) = .ok n) := Lib.hid (fun n hn h => by rw [← h]; exact Fx.fx_parse hn.1 hn.2)
  have HN : Hid (s.data.toList = [] → ∀ v, Lib.parseIntB 64 (Lib.replace s.data.toList [46] [] 1) ≠ .ok v) := Lib.hid (fun h v => by rw [h, Fx.rep_nil]; intro hc; cases hc)
  clear hp hE hm
  generalize Lib.replace s.data.toList [46] [] 1 = R at *
  have hR : R.length ≤ 1048576 := by omega
  by_cases hpar : ∃ v, Lib.parseIntB 64 R = .ok v
  · obtain ⟨v, hv⟩ := hpar
    obtain ⟨v1, v2⟩ := parse_bd hv
    have C2 := Lib.hid (fun (r : ByteArray) (hr : r.data.toList = R) (hz : r.size ≤ 1048576) W => parse_yes r hz v (by rw [hr]; exact hv) W)
    have HU : Hid (∀ n : Int, (-1000000000 ≤ n ∧ n ≤ 1000000000) → Dg.fx n p.toNat = s.data.toList → n = v) := Lib.hid (fun n hn h => by
      have := HF.out n hn h
      rw [hv] at this
      simp only [Lib.NumEnd.ok.injEq] at this
      exact this.symm)
    have HNe : Hid (s.data.toList ≠ []) := Lib.hid (fun h => HN.out h v hv)
    clear hv HF HN
    by_cases hin : (-1000000000 ≤ v ∧ v ≤ 1000000000) ∧ 1 ≤ p ∧ p ≤ 6
    · obtain ⟨⟨h1, h2⟩, h3, h4⟩ := hin
      obtain ⟨q, rfl⟩ := Int.eq_ofNat_of_zero_le (show 0 ≤ p by omega)
      have C3 := fun W hp => Lib.hid (implFixedText_in v q W hp h1 h2 (by omega) (by omega))
      rw [Int.toNat_natCast] at HU
      by_cases hit : Dg.fx v q = s.data.toList
      · have HO : Hid (Fx.RFx s.data.toList q (some v)) := Lib.hid ⟨⟨h1, h2⟩, ⟨h3, h4⟩, by rw [Int.toNat_natCast]; exact hit⟩
        have HS := Lib.hid hit
        clear hit HU
        go_enter Tryz.func10, Tryz.ntmps10
        go_wp2_with fail
        refine C1.out.mono ?_
        rintro e w1 ⟨r, rfl, d1, z1, b1⟩
        have B1 := Lib.hid b1
        have C2' := C2.out r d1 (by omega)
        clear b1 d1
        go_wp2_with fail
        refine (C2' _).mono ?_
        rintro e w2 ⟨rfl, b2⟩
        have B2 := Lib.hid (tbt B1.out b2)
        clear b2 C2'
        go_wp2_with fail
        refine (C3 _ (HP.out.below B2.out)).out.mono ?_
        rintro e w3 ⟨t, rfl, d3, z3, b3⟩
        have B3 := Lib.hid (tbt B2.out b3)
        obtain rfl : t = s := str_eq (d3.trans HS.out)
        clear b3 d3 z3
        go_wp2_with fail
        go_ret2
        exact ret_fx HO.out rfl B3.out
      · have HO : Hid (Fx.RFx s.data.toList q none) := Lib.hid (fun n hn hp h => hit (by
          rw [Int.toNat_natCast] at h
          rw [← HU.out n hn h]; exact h))
        have HS := Lib.hid hit
        clear hit HU
        go_enter Tryz.func10, Tryz.ntmps10
        go_wp2_with fail
        refine C1.out.mono ?_
        rintro e w1 ⟨r, rfl, d1, z1, b1⟩
        have B1 := Lib.hid b1
        have C2' := C2.out r d1 (by omega)
        clear b1 d1
        go_wp2_with fail
        refine (C2' _).mono ?_
        rintro e w2 ⟨rfl, b2⟩
        have B2 := Lib.hid (tbt B1.out b2)
        clear b2 C2'
        go_wp2_with fail
        refine (C3 _ (HP.out.below B2.out)).out.mono ?_
        rintro e w3 ⟨t, rfl, d3, z3, b3⟩
        have B3 := Lib.hid (tbt B2.out b3)
        have hne : (!(t.toList == s.toList)) = true := by
          rw [ByteArray.toList_eq, ByteArray.toList_eq, Bool.not_eq_true', beq_eq_false_iff_ne, d3]; exact HS.out
        clear b3 d3 z3
        go_wp2_with fail
        go_ret2
        exact ret_fx HO.out rfl B3.out
    · have C3 := fun W => Lib.hid (implFixedText_out v p W hin)
      have HO : Hid (Fx.RFx s.data.toList p none) := Lib.hid (fun n hn hp h => hin (by
        rw [← HU.out n hn h]; exact ⟨hn, hp⟩))
      clear HU hin
      go_enter Tryz.func10, Tryz.ntmps10
      go_wp2_with fail
      refine C1.out.mono ?_
      rintro e w1 ⟨r, rfl, d1, z1, b1⟩
      have B1 := Lib.hid b1
      have C2' := C2.out r d1 (by omega)
      clear b1 d1
      go_wp2_with fail
      refine (C2' _).mono ?_
      rintro e w2 ⟨rfl, b2⟩
      have B2 := Lib.hid (tbt B1.out b2)
      clear b2 C2'
      go_wp2_with fail
      refine (C3 _).out.mono ?_
      rintro e w3 ⟨t, rfl, d3, z3, b3⟩
      have B3 := Lib.hid (tbt B2.out b3)
      have hne : (!(t.toList == s.toList)) = true := by
        rw [ByteArray.toList_eq, ByteArray.toList_eq, Bool.not_eq_true', beq_eq_false_iff_ne, d3]; exact fun h => HNe.out h.symm
      clear b3 d3 z3
      go_wp2_with fail
      go_ret2
      exact ret_fx HO.out rfl B3.out
  · have HO : Hid (Fx.RFx s.data.toList p none) := Lib.hid (fun n hn _ h => hpar ⟨n, HF.out n hn h⟩)
    have C2 := Lib.hid (fun (r : ByteArray) (hr : r.data.toList = R) (hz : r.size ≤ 1048576) W hE => parse_no r hz (fun v hv => hpar ⟨v, by rw [← hr]; exact hv⟩) W hE)
    clear hpar HF HN
    go_enter Tryz.func10, Tryz.ntmps10
    go_wp2_with fail
    refine C1.out.mono ?_
    rintro e w1 ⟨r, rfl, d1, z1, b1⟩
    have B1 := Lib.hid b1
    have C2' := C2.out r d1 (by omega)
    clear b1 d1
    go_wp2_with fail
    refine (C2' _ (HE.out.below B1.out)).mono ?_
    rintro e w2 ⟨z, t, a, rfl, b2⟩
    have B2 := Lib.hid (tbt B1.out b2)
    clear b2 C2'
    go_wp2_with fail
    go_ret2
    exact ret_fx HO.out rfl B2.out
end Go.Proofs.YtommcckihanedaaGreatDoor

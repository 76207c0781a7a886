import Derived.Test.YtjogppgddjfejaaDoorRead
import Derived.LaidLaws
import Derived.Lib.AtoiErrMem
import Derived.Shelf.Strconv.ErrVarParseInt
namespace Go.Proofs.YtjogppgddjfejaaDoor
open Go.RowKit
set_option linter.unusedVariables false

/-- the two errors of the library that a reader may hand out, as a world holds them: some interface value each -/
def Errs (w : World) : Prop := (∃ tp p, w.var? Tryd.prog "strconv.ErrSyntax" = some #[.iface tp p]) ∧ ∃ tp p, w.var? Tryd.prog "strconv.ErrRange" = some #[.iface tp p]
theorem gSyn : Tryd.prog.globalNamed "strconv.ErrSyntax" = some 1 := by kernel_rfl
theorem gRan : Tryd.prog.globalNamed "strconv.ErrRange" = some 2 := by kernel_rfl
theorem tSyn : (Tryd.prog.globals[1]?).map (·.type) = some 45 := by kernel_rfl
theorem tRan : (Tryd.prog.globals[2]?).map (·.type) = some 45 := by kernel_rfl
theorem uErr : ∃ ms, Tryd.prog.underlying 45 = some (.interface ms) := ⟨_, Tryd.underlying45⟩
set_option maxRecDepth 100000 in
theorem iface_var {w : World} {n nm : String} {g : Nat} {d : DataW Unit} {rest : List (String × DataW Unit)} (hg : Tryd.prog.globalNamed n = some g) (ht : (Tryd.prog.globals[g]?).map (·.type) = some 45) (h : laidMet Tryd.prog ((n, .iface nm d) :: rest) w) :
    ∃ tp p, w.var? Tryd.prog n = some #[.iface tp p] := by
  obtain ⟨ps, ⟨g', t, cs, fuel, p, q, hg', ht', hvar, hd, _, _⟩, _⟩ := h
  obtain rfl := Option.some.inj (hg.symm.trans hg')
  obtain rfl := Option.some.inj (ht.symm.trans ht')
  obtain ⟨ms, hm⟩ := uErr
  obtain ⟨_, u, v, hcs, _⟩ := iface_of_trod hm hd
  refine ⟨u, v, ?_⟩
  rw [hvar]
  congr 1
  exact Array.toList_inj.1 (by rw [hcs])
theorem errs_of {l : List (String × DataW Unit)} {w : World} (h : laidMet Tryd.prog l w)
    (hf1 : (l.filter fun x => x.1 == "strconv.ErrSyntax") = [("strconv.ErrSyntax", Rows.laid_strconv_ErrSyntax)]) (hf2 : (l.filter fun x => x.1 == "strconv.ErrRange") = [("strconv.ErrRange", Rows.laid_strconv_ErrRange)]) : Errs w := by
  have h1 := laidMet.filter (fun x => x.1 == "strconv.ErrSyntax") h
  have h2 := laidMet.filter (fun x => x.1 == "strconv.ErrRange") h
  rw [hf1] at h1
  rw [hf2] at h2
  unfold Rows.laid_strconv_ErrSyntax at h1
  unfold Rows.laid_strconv_ErrRange at h2
  exact ⟨iface_var gSyn tSyn h1, iface_var gRan tRan h2⟩
theorem Errs.below {w w1 : World} (h : Errs w) (hb : Below w.heap.size w w1) : Errs w1 := by
  obtain ⟨⟨a, b, h1⟩, ⟨c, d, h2⟩⟩ := h
  exact ⟨⟨a, b, var?_below hb gSyn (var_lt gSyn h1) h1⟩, ⟨c, d, var?_below hb gRan (var_lt gRan h2) h2⟩⟩
/-- ParseInt where the text is a number -/
theorem parse_yes (s : ByteArray) (hs : s.size ≤ 1048576) (v : Int) (h : Lib.parseIntB 64 s.data.toList = .ok v) (w : World) :
    Calls Tryd.prog 23 #[.string s, .int .i64 10, .int .i64 64] w fun e w' => e = .returned (.tuple #[.int .i64 v, .nilIface]) ∧ Below w.heap.size w w' :=
  (Tryd.strconv_ParseInt_10_at64_ok s (by omega) v h w).mono (fun e w' h => ⟨h.1, by
    rcases h.2 with h | ⟨t, h⟩
    · rw [h]; exact Below.refl _ _
    · rw [h]; exact Lib.bytesWorld_below _ _ _⟩)
/-- what ParseInt hands out where the text is none -/
def ErrEnd (w : World) (e : Ending) (w' : World) : Prop := ∃ (z : Int) (t : TypeId) (a : Addr), e = .returned (.tuple #[.int .i64 z, .iface t (.pointer (some a))]) ∧ Below w.heap.size w w'
theorem parse_no (s : ByteArray) (hs : s.size ≤ 1048576) (h : ∀ v, Lib.parseIntB 64 s.data.toList ≠ .ok v) (w : World) (hE : Errs w) :
    Calls Tryd.prog 23 #[.string s, .int .i64 10, .int .i64 64] w (ErrEnd w) := by
  obtain ⟨⟨a, b, h1⟩, ⟨c, d, h2⟩⟩ := hE
  rcases hp : Lib.parseIntB 64 s.data.toList with v | _ | _
  · exact absurd hp (h v)
  · exact (Any.strconv_ParseInt_10_at64_syntax_var Tryd.laysC174 s (by omega) hp a b w h1).mono (fun e w' ⟨N, he, _, _, hb⟩ => ⟨_, _, _, he, hb⟩)
  · exact (Any.strconv_ParseInt_10_at64_range_var Tryd.laysC174 s (by omega) hp c d w h2).mono (fun e w' ⟨N, he, _, _, hb⟩ => ⟨_, _, _, he, hb⟩)
theorem trim_body (l : List UInt8) : Lib.trimPrefix l [45] = Nu.body l := by
  unfold Lib.trimPrefix Lib.hasPrefix Nu.body
  match l with
  | [] => rfl
  | c :: r =>
    by_cases h : c = 45
    · subst h; rfl
    · have h' : ¬ c.toNat = 45 := fun hc => h (UInt8.toNat_inj.1 (by rw [hc]; rfl))
      have h2 : (45 == c) = false := by rw [beq_eq_false_iff_ne]; exact fun e => h e.symm
      simp [List.isPrefixOf, h2, h']
theorem parse_bd {l : List UInt8} {v : Int} (h : Lib.parseIntB 64 l = .ok v) : -9223372036854775808 ≤ v ∧ v ≤ 9223372036854775807 := by
  unfold Lib.parseIntB at h
  split at h
  · cases h
  · simp only at h
    split at h
    · cases h
    · cases h
    · split at h
      · cases h
      · split at h
        · cases h
        · simp only [Lib.NumEnd.ok.injEq] at h
          subst h
          split <;> omega
theorem trim_any (s : ByteArray) (w : World) :
    Calls Tryd.prog 22 #[.string s, .string ⟨#[45]⟩] w fun e w' => e = .returned (.string ⟨(Nu.body s.data.toList).toArray⟩) ∧ w = w' :=
  (Tryd.strings_TrimPrefix s ⟨#[45]⟩ w).mono (fun e w' h => ⟨by rw [h.1, ← trim_body], h.2.symm⟩)

set_option maxHeartbeats 1600000 in
theorem implReadDecimal_any (s : ByteArray) (w : World) (hs : s.size ≤ 1048576) (hp : Pow w) (hE : Errs w) :
    Calls Tryd.prog 11 #[.string s] w fun e w' => e = .returned (.tuple #[.int .i64 ((Nu.rd s.data.toList).getD 0), .bool (Nu.rd s.data.toList).isSome]) ∧ Below w.heap.size w w' := by
  have HP := Lib.hid hp
  have HE := Lib.hid hE
  clear hp hE
  by_cases hlong : 18 < (Nu.body s.data.toList).length
  · have hr : Hid (Nu.rd s.data.toList = none) := Lib.hid (rd_none (Or.inr (Or.inl hlong)))
    have hlong' : (18 : Int) < (Nu.body s.data.toList).length := by omega
    go_enter Tryd.func11, Tryd.ntmps11
    go_wp2_with fail
    refine (trim_any _ _).mono ?_
    rintro e w1 ⟨rfl, rfl⟩
    go_wp2_with fail
    go_ret2
    exact ⟨ret_num hr.out rfl rfl, Below.refl _ _⟩
  · have hshort' : ¬ (18 : Int) < (Nu.body s.data.toList).length := by omega
    by_cases hpar : ∃ v, Lib.parseIntB 64 s.data.toList = .ok v
    · obtain ⟨v, hv⟩ := hpar
      obtain ⟨v1, v2⟩ := parse_bd hv
      have C2 := Lib.hid (parse_yes s hs v hv)
      by_cases hit : Lib.itoa v = s.data.toList
      · have hr : Hid (Nu.rd s.data.toList = some v) := Lib.hid (Nu.rd_of hit (by omega))
        have hstr : Hid ((⟨(Lib.itoa v).toArray⟩ : ByteArray) = s) := Lib.hid (by rw [hit])
        clear hit hv hlong
        go_enter Tryd.func11, Tryd.ntmps11
        go_wp2_with fail
        refine (trim_any _ _).mono ?_
        rintro e w1 ⟨rfl, rfl⟩
        go_wp2_with fail
        refine (C2.out _).mono ?_
        rintro e w2 ⟨rfl, hb⟩
        go_wp2_with fail
        refine (implDecimal_any v w2 v1 v2 (HP.out.below hb)).mono ?_
        rintro e w3 ⟨rfl, hb3⟩
        rw [hstr.out]
        go_wp2_with fail
        go_ret2
        exact ⟨ret_num hr.out rfl rfl, hb.trans (hb3.mono hb.size)⟩
      · have hr : Hid (Nu.rd s.data.toList = none) := Lib.hid (by
          rcases h : Nu.rd s.data.toList with _ | u
          · rfl
          · obtain ⟨h1, h2, _⟩ := Nu.rd_some h
            rw [hv] at h1
            cases h1
            exact absurd h2 hit)
        have hne : (!(Lib.itoa v == s.toList)) = true := by
          rw [ByteArray.toList_eq, Bool.not_eq_true', beq_eq_false_iff_ne]; exact hit
        clear hv hlong hit
        go_enter Tryd.func11, Tryd.ntmps11
        go_wp2_with fail
        refine (trim_any _ _).mono ?_
        rintro e w1 ⟨rfl, rfl⟩
        go_wp2_with fail
        refine (C2.out _).mono ?_
        rintro e w2 ⟨rfl, hb⟩
        go_wp2_with fail
        refine (implDecimal_any v w2 v1 v2 (HP.out.below hb)).mono ?_
        rintro e w3 ⟨rfl, hb3⟩
        go_wp2_with fail
        go_ret2
        exact ⟨ret_num hr.out rfl rfl, hb.trans (hb3.mono hb.size)⟩
    · have hr : Hid (Nu.rd s.data.toList = none) := Lib.hid (by
        rcases h : Nu.rd s.data.toList with _ | u
        · rfl
        · exact absurd ⟨u, (Nu.rd_some h).1⟩ hpar)
      have C2 := Lib.hid (parse_no s hs (fun v hv => hpar ⟨v, hv⟩) w HE.out)
      clear hpar hlong
      go_enter Tryd.func11, Tryd.ntmps11
      go_wp2_with fail
      refine (trim_any _ _).mono ?_
      rintro e w1 ⟨rfl, rfl⟩
      go_wp2_with fail
      refine C2.out.mono ?_
      rintro e w2 ⟨z, t, a, rfl, hb⟩
      go_wp2_with fail
      go_ret2
      exact ⟨ret_num hr.out rfl rfl, hb⟩
end Go.Proofs.YtjogppgddjfejaaDoor

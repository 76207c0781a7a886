/-
  ReadProfile of chapter 3, by the program. No condition of its own but what ReadList asks.
-/
import Derived.Test.YtmieckchppfogaaDoorPrY
namespace Go.Proofs.YtmieckchppfogaaDoor
open Go.RowKit Go.ChangeShapes Go.WideShapes Go.Deep
set_option linter.unusedVariables false
set_option maxRecDepth 100000

/-- how a reader of a profile ends -/
def RP (w : World) (o : Option (List Lay)) (e : Ending) (w' : World) : Prop := ∃ u, e = .returned (.tuple #[u, .bool o.isSome]) ∧ LOwn w.heap.size w' u (o.getD []) ∧ Below w.heap.size w w'
theorem RP.no {w w' : World} {o : Option (List Lay)} (ho : o = none) (hb : Below w.heap.size w w') : RP w o (.returned (.tuple #[.slice none 0 0, .bool false])) w' := by
  subst ho; exact ⟨_, rfl, LOwn.nil _ _, hb⟩
theorem RP.yes {w w' : World} {o : Option (List Lay)} {zs : List Lay} {u : Value} (ho : o = some zs) (hu : LOwn w.heap.size w' u zs) (hb : Below w.heap.size w w') : RP w o (.returned (.tuple #[u, .bool true])) w' := by
  subst ho; exact ⟨_, rfl, hu, hb⟩
theorem own_lit0 (w : World) : LOwn w.heap.size (w.alloc (.cells #[] 56)) (.slice (some ⟨w.heap.size, 0, none⟩) 0 0) [] := World.ownsRow_lit _ #[] 0 (Nat.le_refl _) (by decide) (by decide)
theorem news_two (w : World) (o : Obj) (x : Lay) (t : TypeId) : ∀ j u, (iv (La.lv x))[j]? = some u → ((w.alloc o).alloc (.cells #[.int .i64 x.fo, .int .i64 x.ic, .int .i64 x.wa, .int .i64 x.de, .int .i64 x.dg, .int .i64 x.ha, .int .i64 x.ag] t)).cell? ((⟨w.heap.size + 1, 0, none⟩ : Addr).add j) = some u := by
  have h := World.news_of_block (cs := #[.int .i64 x.fo, .int .i64 x.ic, .int .i64 x.wa, .int .i64 x.de, .int .i64 x.dg, .int .i64 x.ha, .int .i64 x.ag]) (Whole.new (w.alloc o) t _)
  have e : (w.alloc o).heap.size = w.heap.size + 1 := by simp
  rw [e] at h
  exact h
theorem one_lay (x : Lay) : ∀ u ∈ iv (La.lv x), u.oneCell' = true := by
  intro u hu
  unfold iv at hu
  obtain ⟨z, _, rfl⟩ := List.mem_map.1 hu
  rfl
theorem own_push {B : Nat} {w : World} {v : Value} {zs : List Lay} {x : Lay} (h : w.ownsRow B 56 7 v (zs.length + 1) (iv (La.fl zs) ++ iv (La.lv x))) : LOwn B w v (zs ++ [x]) := by
  have e : La.fl (zs ++ [x]) = La.fl zs ++ La.lv x := by unfold La.fl; simp
  unfold LOwn; rw [e, iv_append, List.length_append]; exact h
theorem splitN59_any (s : ByteArray) (w : World) (hs : s.size ≤ 1048576) (hm : MaxL w) :
    Calls Tryd.prog 57 #[.string s, .string ⟨#[59]⟩, .int .i64 17] w fun e w' => ∃ cap, e = .returned (.slice (some ⟨w.heap.size, 0, none⟩) (cut59 s).length cap) ∧ Strs w.heap.size w' (.slice (some ⟨w.heap.size, 0, none⟩) (cut59 s).length cap) (cut59 s) ∧ Below w.heap.size w w' := by
  obtain ⟨m, hm⟩ := hm
  have hd : (Lib.splitB ⟨#[59]⟩ 0 (min 17 (s.size + 1) - 1) s).map (·.data.toList) = cut59 s := Lib.splitB_data ⟨#[59]⟩ 0 _ s
  have hl : (Lib.splitB ⟨#[59]⟩ 0 (min 17 (s.size + 1) - 1) s).length = (cut59 s).length := by rw [← hd, List.length_map]
  have hle := Lib.splitB_length_le ⟨#[59]⟩ 0 (min 17 (s.size + 1) - 1) s
  have ht : tvl (cut59 s) = (Lib.splitB ⟨#[59]⟩ 0 (min 17 (s.size + 1) - 1) s).map Value.string := by
    unfold tvl; rw [← hd, List.map_map]
    rfl
  refine (Any.strings_SplitN { Tryd.laysM147 with } Tryd.laysM147.i9 s ⟨#[59]⟩ 17 m w (by omega) hm (by decide) (by decide) (by decide)).mono ?_
  rintro e w' ⟨rfl, rfl⟩
  refine ⟨min 17 (s.size + 1), by rw [hl], ?_, (Below.refl _ _).alloc (Nat.le_refl _) _⟩
  refine ⟨by rw [tvl_length, Nat.mul_one], Or.inr ⟨w.heap.size, _, _, rfl, Nat.le_refl _, heap_alloc_new w _, by omega, by unfold maxLen; omega, by rw [Lib.cellsOf_size (by omega), Nat.mul_one], ?_⟩⟩
  rw [ht, Nat.mul_one, ← hl]
  unfold Lib.cellsOf
  simp
theorem readLayer_at (p : List UInt8) (hp : p.length ≤ 1048576) (w : World) (h1 : Pow w) (h2 : Errs w) (h3 : MaxL w) :
    Calls Tryd.prog 44 #[.string ⟨p.toArray⟩] w (RY w (La.ry p)) := by
  have := readLayer_any ⟨p.toArray⟩ w (by rw [sz_mk]; exact hp) h1 h2 h3
  simpa using this
theorem splitK_part (c : List UInt8) : ∀ (k : Nat) (l : List UInt8), ∀ p ∈ Lib.splitK c 0 k l, p.length ≤ l.length
  | 0, l, p, h => by simp [Lib.splitK] at h; subst h; exact Nat.le_refl _
  | k + 1, l, p, h => by
    rw [Lib.splitK] at h
    split at h
    · simp at h; subst h; exact Nat.le_refl _
    · rcases List.mem_cons.1 h with h | h
      · subst h; rw [List.length_take]; omega
      · have := splitK_part c k _ p h
        rw [List.length_drop] at this; omega
theorem cut59_part (s : ByteArray) : ∀ p ∈ cut59 s, p.length ≤ s.size := by
  intro p hp
  have hz : s.data.toList.length = s.size := by simp
  have := splitK_part [59] _ _ p hp
  omega

set_option maxHeartbeats 3200000 in
theorem readPartsL_any (s : ByteArray) (w : World) (hs : s.size ≤ 1048576) (hpw : Pow w) (her : Errs w) (hml : MaxL w) :
    Calls Tryd.prog 43 #[.string s, .string ⟨#[59]⟩, .int .i64 16, .func (.func 44) #[] #[]] w (RP w (La.mpy (cut59 s))) := by
  obtain ⟨i0, hi, hz0, hz1, hz2⟩ := info_parts info_layer
  have eg := enters_of Tryd.func44 (by kernel_rfl) rfl
  have hpl := Lib.hid (cut59_part s)
  have C := Lib.hid (splitN59_any s w hs hml)
  have hq17 := cut59_len s
  have HPW := Lib.hid hpw
  have HER := Lib.hid her
  have HML := Lib.hid hml
  have hss := Lib.hid hs
  clear hpw her hml
  generalize cut59 s = Q at *
  go_enter Tryd.func43, Tryd.ntmps43
  go_wp2_with fail
  refine C.out.mono ?_
  rintro e w1 ⟨cap, rfl, hst, hb1⟩
  have HST := Lib.hid hst
  have HB1 := Lib.hid hb1
  have hB1 := hb1.size
  clear hst hb1
  go_wp2_with (at_make; refine wpList_make_own _ rfl _ _ 36 rfl w1.heap.size 56 i0 _ 7 Tryd.underlying36 hi hz0 hz1 .i64 .i64 _ Q.length rfl rfl rfl ?m1 ?m2 ?m3 ?_)
  case m1 => first | omega | (rw [hz2]; omega)
  case m2 => unfold maxLen; omega
  case m3 => exact Nat.le_refl _
  intro w1b hown hgr
  have HO : Hid (LOwn w1.heap.size w1b (.slice (some ⟨w1.heap.size, 0, none⟩) 0 Q.length) []) := Lib.hid hown
  have HBb : Hid (Below w1.heap.size w1 w1b) := Lib.hid ((Below.refl _ w1).grown hgr (Nat.le_refl _) (fun k hk => by cases hk))
  clear hown hgr
  go_wp2
  go_loopw [11, 26] (fun ov iv wr => ∃ (k : Nat) (zs : List Lay), k ≤ Q.length ∧ zs.length = k ∧ iv = .int .i64 k ∧ Hid (LOwn w1.heap.size wr ov zs) ∧ Hid (Below w1.heap.size w1 wr) ∧ Hid (La.mpy (Q.take k) = some zs)) (fun _ iv _ => Q.length - (intOf iv).toNat)
  case atStart => exact ⟨0, [], Nat.zero_le _, rfl, rfl, HO, HBb, Lib.hid rfl⟩
  case round =>
    obtain ⟨k, zs, hk, hzk, rfl, ho, hb, hmp⟩ := hrel
    have HZK := Lib.hid hzk
    have hzk' : zs.length ≤ 17 := by omega
    clear hzk
    by_cases hlt : k < Q.length
    · obtain ⟨g, cap', hg0, hg, hc⟩ := strs_form HST.out (by omega)
      simp only [Value.slice.injEq, Option.some.injEq, Addr.mk.injEq, and_true] at hg0
      obtain ⟨rfl, -, rfl⟩ := hg0
      have hpk : Q[k]? = some Q[k] := List.getElem?_eq_getElem hlt
      have c1 : wr.cell? ⟨w.heap.size, k, none⟩ = some (.string ⟨(Q[k]).toArray⟩) := (hb.out.cell (p := ⟨w.heap.size, k, none⟩) hg).trans (hc k _ hpk)
      have hpn : (Q[k]).length ≤ 1048576 := by have := hpl.out Q[k] (List.getElem_mem hlt); have := hss.out; omega
      have HMem := Lib.hid (List.getElem_mem hlt)
      have hsn : Hid (Q.take (k + 1) = Q.take k ++ [Q[k]]) := Lib.hid (by rw [List.take_succ_eq_append_getElem hlt])
      clear hpk hc
      generalize Q[k] = p at *
      have BW := Lib.hid (HB1.out.trans (hb.out.mono hB1))
      have CN := Lib.hid (readLayer_at p hpn wr (HPW.out.below BW.out) (HER.out.below BW.out) (HML.out.below BW.out))
      unfold RY at CN
      have hbs := hb.out.size
      rcases hrd : La.ry p with _ | x
      · have hfin : Hid (La.mpy Q = none) := Lib.hid (La.mpy_none HMem.out hrd)
        rw [hrd] at CN
        clear hrd
        simp only [Option.getD_none, Option.isSome_none] at CN
        go_wp2_with fail
        refine CN.out.mono ?_
        rintro e w2 ⟨rfl, hb2⟩
        have hb3 : Hid (Below w.heap.size w w2) := Lib.hid (bt BW.out hb2)
        have hb4 : Hid (∀ o, Below w.heap.size w (w2.alloc o)) := Lib.hid (fun o => hb3.out.alloc hb3.out.size o)
        clear hb2
        go_wp2_with fail
        go_ret2
        exact RP.no hfin.out (hb4.out _)
      · rw [hrd] at CN
        have hn : Hid (La.mpy (Q.take (k + 1)) = some (zs ++ [x])) := Lib.hid (by rw [hsn.out]; exact La.mpy_snoc hmp.out hrd)
        clear hrd
        simp only [Option.getD_some, Option.isSome_some] at CN
        go_wp2_with fail
        refine CN.out.mono ?_
        rintro e w2 ⟨rfl, hb2⟩
        have hb3 : Hid (Below w1.heap.size w1 w2) := Lib.hid (hb.out.trans (hb2.mono hbs))
        have ho3 : Hid (LOwn w1.heap.size w2 _ zs) := Lib.hid (ho.out.belowAll hb2)
        have hbs3 := hb3.out.size
        clear hb2
        go_wp2_with (at_builtin; refine wpList_append_own _ rfl _ _ 36 rfl w1.heap.size 56 i0 _ 7 56 Tryd.underlying36 hi hz0 hz1 hz2 rfl (by decide) _ _ _ rfl ((ho3.out.alloc _).alloc _) ⟨w2.heap.size + 1, 0, none⟩ 1 1 (iv (La.lv x)) rfl rfl (news_two w2 _ x _) (one_lay x) ?c3 ?c4 ?c5 ?_)
        case c3 => unfold maxLen; omega
        case c4 => omega
        case c5 => first | omega | (simp; omega)
        intro v' w3 hown' hgrow _
        have hnx : Hid (LOwn w1.heap.size w3 v' (zs ++ [x])) := Lib.hid (own_push hown')
        have hnb : Hid (Below w1.heap.size w1 w3) := Lib.hid (((hb3.out.alloc hbs3 _).alloc (by simp; omega) _).grown hgrow (by simp; omega) (fun j hj => (World.ownsRow.lt ho3.out j hj).1))
        clear hown' hgrow ho hb ho3 hb3
        go_wp2
        exact ⟨⟨k + 1, zs ++ [x], by omega, by rw [List.length_append, HZK.out]; rfl, by go_num, hnx, hnb, hn⟩, by simp only [intOf]; omega⟩
    · have hke : k = Q.length := by omega
      have hfin : Hid (La.mpy Q = some zs) := Lib.hid (by have := hmp.out; rw [hke, List.take_length] at this; exact this)
      have BW := Lib.hid (HB1.out.trans (hb.out.mono hB1))
      clear hke
      go_wp2_with fail
      go_ret2
      exact RP.yes hfin.out (ho.out.le hB1) BW.out
set_option maxHeartbeats 1600000 in
theorem implReadProfile_any (s : ByteArray) (w : World) (hs : s.size ≤ 1048576) (hpw : Pow w) (her : Errs w) (hml : MaxL w) :
    Calls Tryd.prog 22 #[.string s] w (RP w (La.rp s.data.toList)) := by
  by_cases hm : s.data.toList = [45]
  · have hr : Hid (La.rp s.data.toList = some []) := Lib.hid (by unfold La.rp; rw [if_pos hm])
    have ht : (s.toList == [45]) = true := by rw [ByteArray.toList_eq, hm]; rfl
    clear hm
    go_enter Tryd.func22, Tryd.ntmps22
    go_wp2
    go_ret2
    exact RP.yes hr.out (own_lit0 w) ((Below.refl _ _).alloc (Nat.le_refl _) _)
  · have ht : (s.toList == [45]) = false := by rw [ByteArray.toList_eq, beq_eq_false_iff_ne]; exact hm
    have C := Lib.hid (readPartsL_any s w hs hpw her hml)
    have E : Hid (La.rp s.data.toList = La.vp (La.mpy (cut59 s))) := Lib.hid (by unfold La.rp; rw [if_neg hm, cut59_vp])
    have HL := Lib.hid (fun zs (h : La.mpy (cut59 s) = some zs) => (by have := La.mpy_len h; have := cut59_len s; omega : zs.length ≤ 17))
    clear hs hpw her hml hm
    generalize La.rp s.data.toList = o at *
    generalize cut59 s = Q at *
    rcases hm : La.mpy Q with _ | zs
    · rw [hm] at C
      have hfin : Hid (o = none) := Lib.hid (by rw [E.out, hm]; rfl)
      clear hm E HL
      unfold RP at C
      simp only [Option.getD_none, Option.isSome_none] at C
      go_enter Tryd.func22, Tryd.ntmps22
      go_wp2_with fail
      refine C.out.mono ?_
      rintro e w1 ⟨u, rfl, o1, b1⟩
      have B1 := Lib.hid b1
      clear b1
      go_wp2_with fail
      go_ret2
      exact RP.no hfin.out B1.out
    · have hzl := HL.out zs hm
      rw [hm] at C
      unfold RP at C
      simp only [Option.getD_some, Option.isSome_some] at C
      cases hq : La.okP zs with
      | false =>
        have hfin : Hid (o = none) := Lib.hid (by rw [E.out, hm]; exact La.vp_bad hq)
        clear hm E HL
        go_enter Tryd.func22, Tryd.ntmps22
        go_wp2_with fail
        refine C.out.mono ?_
        rintro e w1 ⟨u, rfl, o1, b1⟩
        have B1 := Lib.hid b1
        have CV := implValidProfile_any w1 u zs o1.sl (by omega)
        rw [hq] at CV
        have CV := Lib.hid CV
        clear b1 o1 hq
        go_wp2_with fail
        refine CV.out.mono ?_
        rintro e w2 ⟨rfl, b2⟩
        have B2 := Lib.hid (bt B1.out b2)
        clear b2
        go_wp2_with fail
        go_ret2
        exact RP.no hfin.out B2.out
      | true =>
        have hfin : Hid (o = some zs) := Lib.hid (by rw [E.out, hm]; exact La.vp_ok hq)
        clear hm E HL
        go_enter Tryd.func22, Tryd.ntmps22
        go_wp2_with fail
        refine C.out.mono ?_
        rintro e w1 ⟨u, rfl, o1, b1⟩
        have B1 := Lib.hid b1
        have O1 := Lib.hid o1
        have CV := implValidProfile_any w1 u zs o1.sl (by omega)
        rw [hq] at CV
        have CV := Lib.hid CV
        clear b1 o1 hq
        go_wp2_with fail
        refine CV.out.mono ?_
        rintro e w2 ⟨rfl, b2⟩
        have B2 := Lib.hid (bt B1.out b2)
        have O2 := Lib.hid (O1.out.belowAll b2)
        clear b2 O1
        go_wp2_with fail
        go_ret2
        exact RP.yes hfin.out O2.out B2.out
end Go.Proofs.YtmieckchppfogaaDoor

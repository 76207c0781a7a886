import Derived.Test.YtjogppgddjfejaaDoorReadI
import Derived.Test.YtjogppgddjfejaaDoorList
import Derived.Test.YtjogppgddjfejaaDoorSplit
import Derived.Lib.SplitLaws
namespace Go.Proofs.YtjogppgddjfejaaDoor
open Go.RowKit
set_option linter.unusedVariables false

theorem idx_cases (c : UInt8) : ∀ l : List UInt8, (c ∉ l ∧ Lib.index l [c] = -1) ∨ ∃ p r, l = p ++ c :: r ∧ c ∉ p ∧ Lib.index l [c] = (p.length : Int)
  | [] => Or.inl ⟨by simp, by simp [Lib.index]⟩
  | x :: l => by
    by_cases hx : c = x
    · subst hx
      exact Or.inr ⟨[], l, rfl, by simp, by simp [Lib.index]⟩
    · have hpx : ([c] : List UInt8).isPrefixOf (x :: l) = false := by simp [List.isPrefixOf, hx]
      rcases idx_cases c l with ⟨h1, h2⟩ | ⟨p, r, h1, h2, h3⟩
      · exact Or.inl ⟨by simp [h1, hx], by rw [Lib.index, hpx, h2]; rfl⟩
      · refine Or.inr ⟨x :: p, r, by rw [h1]; rfl, by simp [h2, hx], ?_⟩
        rw [Lib.index, hpx, h3, List.length_cons]
        have : ¬ (((p.length : Int)) == -1) = true := by rw [beq_iff_eq]; omega
        rw [if_neg (by decide), if_neg this]; omega
theorem splitK_spl (c : UInt8) : ∀ (k : Nat) (l : List UInt8), ((spl c l).length ≤ k + 1 → Lib.splitK [c] 0 k l = spl c l) ∧ (k + 1 < (spl c l).length → (Lib.splitK [c] 0 k l).length = k + 1)
  | 0, l => by
    refine ⟨fun h => ?_, fun _ => rfl⟩
    rcases idx_cases c l with ⟨h1, _⟩ | ⟨p, r, h1, h2, _⟩
    · rw [spl_miss c l h1]; rfl
    · rw [h1, spl_hit c r p h2, List.length_cons] at h
      have := List.length_pos_iff.2 (spl_ne c r)
      omega
  | k + 1, l => by
    rcases idx_cases c l with ⟨h1, h2⟩ | ⟨p, r, h1, h2, h3⟩
    · rw [spl_miss c l h1]
      refine ⟨fun _ => by rw [Lib.splitK, h2]; rfl, fun h => by simp at h⟩
    · obtain ⟨ih1, ih2⟩ := splitK_spl c k r
      have hm : ¬ ((Lib.index l [c]) == -1) = true := by rw [beq_iff_eq, h3]; omega
      have e : Lib.splitK [c] 0 (k + 1) l = p :: Lib.splitK [c] 0 k r := by
        rw [Lib.splitK, if_neg hm, h3, h1]
        congr 1
        · simp
        · congr 1
          simp
      rw [e, h1, spl_hit c r p h2]
      refine ⟨fun h => by rw [ih1 (by simpa using h)], fun h => ?_⟩
      rw [List.length_cons, ih2 (by simpa using h)]
theorem spl_len (c : UInt8) : ∀ l : List UInt8, (spl c l).length ≤ l.length + 1
  | [] => by simp [spl]
  | x :: r => by
    have := spl_len c r
    rw [spl]
    split
    · simp; omega
    · split
      · simp
      · rename_i p ps h; rw [h] at this; simp at this ⊢; omega
theorem spl_part_len (c : UInt8) : ∀ l : List UInt8, ∀ p ∈ spl c l, p.length ≤ l.length
  | [], p, h => by simp [spl] at h; subst h; simp
  | x :: r, p, h => by
    have ih := spl_part_len c r
    rw [spl] at h
    split at h
    · rcases List.mem_cons.1 h with h | h
      · subst h; simp
      · have := ih p h; simp; omega
    · split at h
      · simp at h; subst h; simp
      · rename_i q qs hq
        rcases List.mem_cons.1 h with h | h
        · subst h; have := ih q (by rw [hq]; simp); simp; omega
        · have := ih p (by rw [hq]; simp [h]); simp; omega

/-- where the library's search begins to cut over: some number -/
def MaxL (w : World) : Prop := ∃ m : Int, w.cell? ⟨0, 0, none⟩ = some (.int .i64 m)
theorem maxL_of {w : World} (h : w.ShapedOpen Tryd.prog) : MaxL w := Tryd.laysM147.s1_3 w h
theorem MaxL.below {w w1 : World} (h : MaxL w) (hb : Below w.heap.size w w1) : MaxL w1 := by
  obtain ⟨m, hm⟩ := h
  exact ⟨m, (hb.cell (World.block_lt_of_cell? w _ hm)).trans hm⟩
/-- the parts that the library cuts: all of them if there are at most 64, 65 of them if there are more -/
def cut (s : ByteArray) : List (List UInt8) := Lib.splitK [44] 0 (min 65 (s.size + 1) - 1) s.data.toList
theorem cut_few {s : ByteArray} (h : (spl 44 s.data.toList).length ≤ 64) : cut s = spl 44 s.data.toList := by
  refine (splitK_spl 44 _ _).1 ?_
  have := spl_len 44 s.data.toList
  have hz : s.data.toList.length = s.size := by simp
  omega
theorem cut_many {s : ByteArray} (h : 64 < (spl 44 s.data.toList).length) : 64 < (cut s).length := by
  have hl := spl_len 44 s.data.toList
  have hz : s.data.toList.length = s.size := by simp
  have he : min 65 (s.size + 1) - 1 = 64 := by omega
  by_cases h2 : (spl 44 s.data.toList).length ≤ 64 + 1
  · have := (splitK_spl 44 64 s.data.toList).1 h2
    unfold cut; rw [he, this]; exact h
  · have := (splitK_spl 44 64 s.data.toList).2 (by omega)
    unfold cut; rw [he, this]; omega
theorem splitN_any (s : ByteArray) (w : World) (hs : s.size ≤ 1048576) (hm : MaxL w) :
    Calls Tryd.prog 25 #[.string s, .string ⟨#[44]⟩, .int .i64 65] w fun e w' => ∃ cap, e = .returned (.slice (some ⟨w.heap.size, 0, none⟩) (cut s).length cap) ∧ Strs w.heap.size w' (.slice (some ⟨w.heap.size, 0, none⟩) (cut s).length cap) (cut s) ∧ Below w.heap.size w w' := by
  obtain ⟨m, hm⟩ := hm
  have hd : (Lib.splitB ⟨#[44]⟩ 0 (min 65 (s.size + 1) - 1) s).map (·.data.toList) = cut s := Lib.splitB_data ⟨#[44]⟩ 0 _ s
  have hl : (Lib.splitB ⟨#[44]⟩ 0 (min 65 (s.size + 1) - 1) s).length = (cut s).length := by rw [← hd, List.length_map]
  have hle := Lib.splitB_length_le ⟨#[44]⟩ 0 (min 65 (s.size + 1) - 1) s
  have ht : tvl (cut s) = (Lib.splitB ⟨#[44]⟩ 0 (min 65 (s.size + 1) - 1) s).map Value.string := by
    unfold tvl; rw [← hd, List.map_map]
    rfl
  refine (Any.strings_SplitN { Tryd.laysM147 with } Tryd.laysM147.i9 s ⟨#[44]⟩ 65 m w (by omega) hm (by decide) (by decide) (by decide)).mono ?_
  rintro e w' ⟨rfl, rfl⟩
  refine ⟨min 65 (s.size + 1), by rw [hl], ?_, (Below.refl _ _).alloc (Nat.le_refl _) _⟩
  refine ⟨by rw [tvl_length, Nat.mul_one], Or.inr ⟨w.heap.size, _, _, rfl, Nat.le_refl _, heap_alloc_new w _, by omega, by unfold maxLen; omega, by rw [Lib.cellsOf_size (by omega), Nat.mul_one], ?_⟩⟩
  rw [ht, Nat.mul_one, ← hl]
  unfold Lib.cellsOf
  simp

/-- what ReadList reads off one part, and off a text -/
def rdV (p : List UInt8) : Option Int := match Nu.rd p with | some v => if okV v then some v else none | none => none
def mp : List (List UInt8) → Option (List Int)
  | [] => some []
  | p :: ps => match rdV p, mp ps with | some v, some vs => some (v :: vs) | _, _ => none
def rl (l : List UInt8) : Option (List Int) := if l = [45] then some [] else if 64 < (spl 44 l).length then none else mp (spl 44 l)
theorem mp_snoc {l : List (List UInt8)} {p : List UInt8} {zs : List Int} {v : Int} (h1 : mp l = some zs) (h2 : rdV p = some v) : mp (l ++ [p]) = some (zs ++ [v]) := by
  induction l generalizing zs with
  | nil => simp only [mp, Option.some.injEq] at h1; subst h1; simp [mp, h2]
  | cons q l ih =>
    simp only [mp] at h1
    split at h1
    · rename_i w vs hq hl
      simp only [Option.some.injEq] at h1
      subst h1
      rw [List.cons_append, mp, hq, ih hl]
      rfl
    · cases h1
theorem mp_none {l : List (List UInt8)} {p : List UInt8} (h : p ∈ l) (h2 : rdV p = none) : mp l = none := by
  induction l with
  | nil => cases h
  | cons q l ih =>
    rw [mp]
    rcases List.mem_cons.1 h with h | h
    · subst h; rw [h2]
    · rw [ih h]; split <;> simp_all
theorem mp_len {l : List (List UInt8)} {zs : List Int} (h : mp l = some zs) : zs.length = l.length := by
  induction l generalizing zs with
  | nil => simp only [mp, Option.some.injEq] at h; subst h; rfl
  | cons q l ih =>
    simp only [mp] at h
    split at h
    · rename_i w vs hq hl
      simp only [Option.some.injEq] at h
      subst h
      simp [ih hl]
    · cases h
theorem rdV_none {p : List UInt8} (h : Nu.rd p = none) : rdV p = none := by unfold rdV; rw [h]
theorem rdV_out {p : List UInt8} {v : Int} (h : Nu.rd p = some v) (h2 : okV v = false) : rdV p = none := by unfold rdV; rw [h]; simp [h2]
theorem rdV_in {p : List UInt8} {v : Int} (h : Nu.rd p = some v) (h2 : okV v = true) : rdV p = some v := by unfold rdV; rw [h]; simp [h2]
/-- how a reader of a list ends: a row of its own with the numbers and true, or nil and false -/
def RL (w : World) (o : Option (List Int)) (e : Ending) (w' : World) : Prop := ∃ u, e = .returned (.tuple #[u, .bool o.isSome]) ∧ Own w.heap.size w' u (o.getD []) ∧ Below w.heap.size w w'
theorem RL.no {w w' : World} {o : Option (List Int)} {e : Ending} (ho : o = none) (he : e = .returned (.tuple #[.slice none 0 0, .bool false])) (hb : Below w.heap.size w w') : RL w o e w' := by
  subst ho; exact ⟨_, he, World.ownsRow_nil _ _ _ _, hb⟩
theorem RL.yes {w w' : World} {o : Option (List Int)} {e : Ending} {zs : List Int} {u : Value} (ho : o = some zs) (he : e = .returned (.tuple #[u, .bool true])) (hu : Own w.heap.size w' u zs) (hb : Below w.heap.size w w') : RL w o e w' := by
  subst ho; exact ⟨_, he, hu, hb⟩
theorem number_at (p : List UInt8) (hp : p.length ≤ 1048576) (w : World) :
    Calls Tryd.prog 19 #[.string ⟨p.toArray⟩] w fun e w' => e = .returned (.tuple #[.int .i64 ((Nu.rd p).getD 0), .bool (Nu.rd p).isSome]) ∧ w = w' := by
  have := l01Number_any ⟨p.toArray⟩ w (by rw [sz_mk]; exact hp)
  simpa using this
theorem decimal_at (p : List UInt8) (hp : p.length ≤ 1048576) (w : World) (h1 : Pow w) (h2 : Errs w) :
    Calls Tryd.prog 11 #[.string ⟨p.toArray⟩] w fun e w' => e = .returned (.tuple #[.int .i64 ((Nu.rd p).getD 0), .bool (Nu.rd p).isSome]) ∧ Below w.heap.size w w' := by
  have := implReadDecimal_any ⟨p.toArray⟩ w (by rw [sz_mk]; exact hp) h1 h2
  simpa using this
theorem strs_form {B : Nat} {w : World} {v : Value} {ls : List (List UInt8)} (h : Strs B w v ls) (hn : 0 < ls.length) :
    ∃ g cap, v = .slice (some ⟨g, 0, none⟩) ls.length cap ∧ g < w.heap.size ∧ ∀ j b, ls[j]? = some b → w.cell? ⟨g, j, none⟩ = some (.string ⟨b.toArray⟩) := by
  obtain ⟨g, cap, rfl⟩ := Go.Joins.ownsRow_form h hn
  refine ⟨g, cap, rfl, (World.ownsRow.lt h g rfl).2, fun j b hj => ?_⟩
  have hl : j < ls.length := (List.getElem?_eq_some_iff.1 hj).1
  rw [World.ownsRow.cellAt h j (by omega)]
  unfold tvl; rw [List.getElem?_map, hj]; rfl
theorem Own.le {B B' : Nat} {w : World} {v : Value} {zs : List Int} (h : Own B w v zs) (hb : B' ≤ B) : Own B' w v zs := Go.Joins.ownsRow_le h hb
theorem iv_app (zs : List Int) (v : Int) : iv (zs ++ [v]) = iv zs ++ [.int .i64 v] := by unfold iv; rw [List.map_append]; rfl

set_option maxRecDepth 100000 in
set_option maxHeartbeats 3200000 in
theorem specReadList_any (s : ByteArray) (w : World) (hs : s.size ≤ 1048576) :
    Calls Tryd.prog 18 #[.string s] w (RL w (rl s.data.toList)) := by
  obtain ⟨i0, hi, hz0, hz1, hz2⟩ := info_parts info_i64
  have hsl : s.data.toList.length = s.size := by simp
  by_cases hm : s.data.toList = [45]
  · have hr : Hid (rl s.data.toList = some []) := Lib.hid (by unfold rl; rw [if_pos hm])
    have ht : (s.toList == [45]) = true := by rw [ByteArray.toList_eq, hm]; rfl
    clear hm hsl
    go_enter Tryd.func18, Tryd.ntmps18
    go_wp2
    go_ret2
    exact RL.yes hr.out rfl (World.ownsRow_lit _ _ _ (Nat.le_refl _) (by decide) (by decide)) ((Below.refl _ _).alloc (Nat.le_refl _) _)
  · have ht : (s.toList == [45]) = false := by rw [ByteArray.toList_eq, beq_eq_false_iff_ne]; exact hm
    have HP : Hid (rl s.data.toList = if 64 < (spl 44 s.data.toList).length then none else mp (spl 44 s.data.toList)) := Lib.hid (by unfold rl; rw [if_neg hm])
    have hpl := Lib.hid (spl_part_len 44 s.data.toList)
    have C := Lib.hid (l01Split_any s 44 w hs)
    have hlen := Lib.hid hsl
    have hpos := List.length_pos_iff.2 (spl_ne 44 s.data.toList)
    have HR := Lib.hid (rfl : rl s.data.toList = rl s.data.toList)
    clear hm hsl HR
    generalize rl s.data.toList = o at *
    generalize spl 44 s.data.toList = P at *
    go_enter Tryd.func18, Tryd.ntmps18
    go_wp2_with fail
    refine C.out.mono ?_
    rintro e w1 ⟨v, rfl, hst, hb1⟩
    obtain ⟨g, cap, rfl, hg, hc⟩ := strs_form hst hpos
    have HC := Lib.hid hc
    have HB1 := Lib.hid hb1
    have hB1 := hb1.size
    clear hst hc hb1
    by_cases hlong : 64 < P.length
    · have hr : Hid (o = none) := Lib.hid (by rw [HP.out, if_pos hlong])
      have hl' : (64 : Int) < P.length := by omega
      clear hlong
      go_wp2
      go_ret2
      exact RL.no hr.out rfl HB1.out
    · have hr : Hid (o = mp P) := Lib.hid (by rw [HP.out, if_neg hlong])
      have hl' : ¬ (64 : Int) < P.length := by omega
      go_wp2
      go_loopw [5, 6] (fun ov iv wr => ∃ (k : Nat) (zs : List Int), k ≤ P.length ∧ zs.length = k ∧ iv = .int .i64 k ∧ Hid (Own w1.heap.size wr ov zs) ∧ Hid (Below w1.heap.size w1 wr) ∧ Hid (mp (P.take k) = some zs)) (fun _ iv _ => P.length - (intOf iv).toNat)
      case atStart => exact ⟨0, [], Nat.zero_le _, rfl, rfl, Lib.hid (World.ownsRow_lit _ _ _ (Nat.le_refl _) (by decide) (by decide)), Lib.hid ((Below.refl _ _).alloc (Nat.le_refl _) _), Lib.hid rfl⟩
      case round =>
        obtain ⟨k, zs, hk, hzk, rfl, ho, hb, hmp⟩ := hrel
        have HZK := Lib.hid hzk
        have hzk' : zs.length ≤ 64 := by omega
        clear hzk
        by_cases hlt : k < P.length
        · have hpk : P[k]? = some P[k] := List.getElem?_eq_getElem hlt
          have c1 : wr.cell? ⟨g, k, none⟩ = some (.string ⟨(P[k]).toArray⟩) := (hb.out.cell (p := ⟨g, k, none⟩) hg).trans (HC.out k _ hpk)
          have hpn : (P[k]).length ≤ 1048576 := by have := hpl.out P[k] (List.getElem_mem hlt); have := hlen.out; omega
          have HMem := Lib.hid (List.getElem_mem hlt)
          have hsn : Hid (P.take (k + 1) = P.take k ++ [P[k]]) := Lib.hid (by rw [List.take_succ_eq_append_getElem hlt])
          clear hpk
          generalize P[k] = p at *
          have CN := Lib.hid (number_at p hpn)
          have hbs := hb.out.size
          rcases hrd : Nu.rd p with _ | v
          · have hfin : Hid (o = none) := Lib.hid (by rw [hr.out]; exact mp_none HMem.out (rdV_none hrd))
            rw [hrd] at CN
            clear hrd
            go_wp2_with fail
            refine (CN.out _).mono ?_
            rintro e w2 ⟨rfl, rfl⟩
            go_wp2_with fail
            go_ret2
            exact RL.no hfin.out rfl (HB1.out.trans (hb.out.mono hB1))
          · rw [hrd] at CN
            by_cases hv : okV v = true
            · have hn : Hid (mp (P.take (k + 1)) = some (zs ++ [v])) := Lib.hid (by rw [hsn.out]; exact mp_snoc hmp.out (rdV_in hrd hv))
              have hx : Ar.inB (-1000000000000) v 1000000000000 = true := hv
              clear hrd hv
              go_wp2_with fail
              refine (CN.out _).mono ?_
              rintro e w2 ⟨rfl, rfl⟩
              go_wp2_with (first | (go_at_call 31; refine (l00In_any _ _ _ _).mono ?_; rintro e w' ⟨rfl, rfl⟩) | (at_builtin; refine wpList_append_own _ rfl _ _ 22 rfl w1.heap.size 2 i0 (.int .i64 0) 1 8 Tryd.underlying22 hi hz0 hz1 hz2 rfl (by decide) _ _ _ rfl (ho.out.alloc _) ⟨wr.heap.size, 0, none⟩ 1 1 [.int .i64 v] rfl rfl (one_new _ _ _) (one_cell _ _) ?c3 ?c4 ?c5 ?_))
              case c3 => unfold maxLen; omega
              case c4 => omega
              case c5 => first | omega | (simp; omega)
              intro v' w3 hown' hgrow _
              have hnx : Hid (Own w1.heap.size w3 v' (zs ++ [v])) := Lib.hid (by unfold Own; rw [iv_app, List.length_append]; exact hown')
              have hnb : Hid (Below w1.heap.size w1 w3) := Lib.hid ((hb.out.alloc hbs _).grown hgrow (by simp; omega) (fun j hj => (ho.out.lt j hj).1))
              clear hown' hgrow ho hb
              go_wp2
              exact ⟨⟨k + 1, zs ++ [v], by omega, by rw [List.length_append, HZK.out]; rfl, by go_num, hnx, hnb, hn⟩, by simp only [intOf]; omega⟩
            · have hvf : okV v = false := by simpa using hv
              have hfin : Hid (o = none) := Lib.hid (by rw [hr.out]; exact mp_none HMem.out (rdV_out hrd hvf))
              have hx : Ar.inB (-1000000000000) v 1000000000000 = false := hvf
              clear hrd hv hvf
              go_wp2_with fail
              refine (CN.out _).mono ?_
              rintro e w2 ⟨rfl, rfl⟩
              go_wp2_with (go_at_call 31; refine (l00In_any _ _ _ _).mono ?_; rintro e w' ⟨rfl, rfl⟩)
              go_ret2
              exact RL.no hfin.out rfl (HB1.out.trans (hb.out.mono hB1))
        · have hke : k = P.length := by omega
          have hfin : Hid (o = some zs) := Lib.hid (by have := hmp.out; rw [hke, List.take_length] at this; rw [hr.out, this])
          clear hke
          go_wp2
          go_ret2
          exact RL.yes hfin.out rfl (ho.out.le hB1) (HB1.out.trans (hb.out.mono hB1))
set_option maxRecDepth 100000 in
set_option maxHeartbeats 3200000 in
theorem implReadList_any (s : ByteArray) (w : World) (hs : s.size ≤ 1048576) (hpw : Pow w) (her : Errs w) (hml : MaxL w) :
    Calls Tryd.prog 12 #[.string s] w (RL w (rl s.data.toList)) := by
  obtain ⟨i0, hi, hz0, hz1, hz2⟩ := info_parts info_i64
  have hsl : s.data.toList.length = s.size := by simp
  by_cases hm : s.data.toList = [45]
  · have hr : Hid (rl s.data.toList = some []) := Lib.hid (by unfold rl; rw [if_pos hm])
    have ht : (s.toList == [45]) = true := by rw [ByteArray.toList_eq, hm]; rfl
    clear hm hsl
    go_enter Tryd.func12, Tryd.ntmps12
    go_wp2
    go_ret2
    exact RL.yes hr.out rfl (World.ownsRow_lit _ _ _ (Nat.le_refl _) (by decide) (by decide)) ((Below.refl _ _).alloc (Nat.le_refl _) _)
  · have ht : (s.toList == [45]) = false := by rw [ByteArray.toList_eq, beq_eq_false_iff_ne]; exact hm
    have HP : Hid (rl s.data.toList = if 64 < (spl 44 s.data.toList).length then none else mp (spl 44 s.data.toList)) := Lib.hid (by unfold rl; rw [if_neg hm])
    have hpl := Lib.hid (spl_part_len 44 s.data.toList)
    have C := Lib.hid (splitN_any s w hs hml)
    have HF : Hid ((spl 44 s.data.toList).length ≤ 64 → cut s = spl 44 s.data.toList) := Lib.hid (fun h => cut_few h)
    have HM : Hid (64 < (spl 44 s.data.toList).length → 64 < (cut s).length) := Lib.hid (fun h => cut_many h)
    have HPW := Lib.hid hpw
    have HER := Lib.hid her
    have hlen := Lib.hid hsl
    have hpos := List.length_pos_iff.2 (spl_ne 44 s.data.toList)
    have HR := Lib.hid (rfl : rl s.data.toList = rl s.data.toList)
    clear hm hsl HR hpw her hml
    generalize cut s = Q at *
    generalize rl s.data.toList = o at *
    generalize spl 44 s.data.toList = P at *
    go_enter Tryd.func12, Tryd.ntmps12
    by_cases hlong : 64 < P.length
    · have hr : Hid (o = none) := Lib.hid (by rw [HP.out, if_pos hlong])
      have hl' : (64 : Int) < Q.length := by have := HM.out hlong; omega
      clear hlong
      go_wp2_with fail
      refine C.out.mono ?_
      rintro e w1 ⟨cap, rfl, hst, hb1⟩
      have HB1 := Lib.hid hb1
      clear hst hb1
      go_wp2
      go_ret2
      exact RL.no hr.out rfl HB1.out
    · have hr : Hid (o = mp P) := Lib.hid (by rw [HP.out, if_neg hlong])
      have hQ : Q = P := HF.out (by omega)
      subst hQ
      have hl' : ¬ (64 : Int) < Q.length := by omega
      go_wp2_with fail
      refine C.out.mono ?_
      rintro e w1 ⟨cap, rfl, hst, hb1⟩
      obtain ⟨g, cap', hg0, hg, hc⟩ := strs_form hst hpos
      simp only [Value.slice.injEq, Option.some.injEq, Addr.mk.injEq, and_true] at hg0
      obtain ⟨rfl, -, rfl⟩ := hg0
      have HC := Lib.hid hc
      have HB1 := Lib.hid hb1
      have hB1 := hb1.size
      clear hst hc hb1
      go_wp2_with (at_make; refine wpList_make_own _ rfl _ _ 22 rfl w1.heap.size 2 i0 (.int .i64 0) 1 Tryd.underlying22 hi hz0 hz1 .i64 .i64 _ Q.length rfl rfl rfl ?m1 ?m2 ?m3 ?_)
      case m1 => first | omega | (rw [hz2]; omega)
      case m2 => unfold maxLen; omega
      case m3 => exact Nat.le_refl _
      intro w1b hown hgr
      have HO : Hid (Own w1.heap.size w1b (.slice (some ⟨w1.heap.size, 0, none⟩) 0 Q.length) []) := Lib.hid hown
      have HBb : Hid (Below w1.heap.size w1 w1b) := Lib.hid ((Below.refl _ w1).grown hgr (Nat.le_refl _) (fun k hk => by cases hk))
      clear hown hgr
      go_wp2
      go_loopw [5, 23] (fun ov iv wr => ∃ (k : Nat) (zs : List Int), k ≤ Q.length ∧ zs.length = k ∧ iv = .int .i64 k ∧ Hid (Own w1.heap.size wr ov zs) ∧ Hid (Below w1.heap.size w1 wr) ∧ Hid (mp (Q.take k) = some zs)) (fun _ iv _ => Q.length - (intOf iv).toNat)
      case atStart => exact ⟨0, [], Nat.zero_le _, rfl, rfl, HO, HBb, Lib.hid rfl⟩
      case round =>
        obtain ⟨k, zs, hk, hzk, rfl, ho, hb, hmp⟩ := hrel
        have HZK := Lib.hid hzk
        have hzk' : zs.length ≤ 64 := by omega
        clear hzk
        by_cases hlt : k < Q.length
        · have hpk : Q[k]? = some Q[k] := List.getElem?_eq_getElem hlt
          have c1 : wr.cell? ⟨w.heap.size, k, none⟩ = some (.string ⟨(Q[k]).toArray⟩) := (hb.out.cell (p := ⟨w.heap.size, k, none⟩) hg).trans (HC.out k _ hpk)
          have hpn : (Q[k]).length ≤ 1048576 := by have := hpl.out Q[k] (List.getElem_mem hlt); have := hlen.out; omega
          have HMem := Lib.hid (List.getElem_mem hlt)
          have hsn : Hid (Q.take (k + 1) = Q.take k ++ [Q[k]]) := Lib.hid (by rw [List.take_succ_eq_append_getElem hlt])
          clear hpk
          generalize Q[k] = p at *
          have CN := Lib.hid (decimal_at p hpn wr (HPW.out.below (HB1.out.trans (hb.out.mono hB1))) (HER.out.below (HB1.out.trans (hb.out.mono hB1))))
          have hbs := hb.out.size
          rcases hrd : Nu.rd p with _ | v
          · have hfin : Hid (o = none) := Lib.hid (by rw [hr.out]; exact mp_none HMem.out (rdV_none hrd))
            rw [hrd] at CN
            clear hrd
            go_wp2_with fail
            refine CN.out.mono ?_
            rintro e w2 ⟨rfl, hb2⟩
            have hb3 : Hid (Below w1.heap.size w1 w2) := Lib.hid (hb.out.trans (hb2.mono hbs))
            have ho3 : Hid (Own w1.heap.size w2 _ zs) := Lib.hid (ownsRow_belowAll ho.out hb2)
            have hbs3 := hb3.out.size
            clear hb2
            go_wp2_with fail
            go_ret2
            exact RL.no hfin.out rfl (HB1.out.trans (hb3.out.mono hB1))
          · rw [hrd] at CN
            by_cases hv : okV v = true
            · have hn : Hid (mp (Q.take (k + 1)) = some (zs ++ [v])) := Lib.hid (by rw [hsn.out]; exact mp_snoc hmp.out (rdV_in hrd hv))
              have hx : Ar.inB (-1000000000000) v 1000000000000 = true := hv
              clear hrd hv
              go_wp2_with fail
              refine CN.out.mono ?_
              rintro e w2 ⟨rfl, hb2⟩
              have hb3 : Hid (Below w1.heap.size w1 w2) := Lib.hid (hb.out.trans (hb2.mono hbs))
              have ho3 : Hid (Own w1.heap.size w2 _ zs) := Lib.hid (ownsRow_belowAll ho.out hb2)
              have hbs3 := hb3.out.size
              clear hb2
              go_wp2_with (first | (go_at_call 26; refine (isValue_any _ _).mono ?_; rintro e w' ⟨rfl, rfl⟩) | (at_builtin; refine wpList_append_own _ rfl _ _ 22 rfl w1.heap.size 2 i0 (.int .i64 0) 1 8 Tryd.underlying22 hi hz0 hz1 hz2 rfl (by decide) _ _ _ rfl (ho3.out.alloc _) ⟨w2.heap.size, 0, none⟩ 1 1 [.int .i64 v] rfl rfl (one_new _ _ _) (one_cell _ _) ?c3 ?c4 ?c5 ?_))
              case c3 => unfold maxLen; omega
              case c4 => omega
              case c5 => first | omega | (simp; omega)
              intro v' w3 hown' hgrow _
              have hnx : Hid (Own w1.heap.size w3 v' (zs ++ [v])) := Lib.hid (by unfold Own; rw [iv_app, List.length_append]; exact hown')
              have hnb : Hid (Below w1.heap.size w1 w3) := Lib.hid ((hb3.out.alloc hbs3 _).grown hgrow (by simp; omega) (fun j hj => (ho3.out.lt j hj).1))
              clear hown' hgrow ho hb ho3 hb3
              go_wp2
              exact ⟨⟨k + 1, zs ++ [v], by omega, by rw [List.length_append, HZK.out]; rfl, by go_num, hnx, hnb, hn⟩, by simp only [intOf]; omega⟩
            · have hvf : okV v = false := by simpa using hv
              have hfin : Hid (o = none) := Lib.hid (by rw [hr.out]; exact mp_none HMem.out (rdV_out hrd hvf))
              have hx : Ar.inB (-1000000000000) v 1000000000000 = false := hvf
              clear hrd hv hvf
              go_wp2_with fail
              refine CN.out.mono ?_
              rintro e w2 ⟨rfl, hb2⟩
              have hb3 : Hid (Below w1.heap.size w1 w2) := Lib.hid (hb.out.trans (hb2.mono hbs))
              have ho3 : Hid (Own w1.heap.size w2 _ zs) := Lib.hid (ownsRow_belowAll ho.out hb2)
              have hbs3 := hb3.out.size
              clear hb2
              go_wp2_with (go_at_call 26; refine (isValue_any _ _).mono ?_; rintro e w' ⟨rfl, rfl⟩)
              go_ret2
              exact RL.no hfin.out rfl (HB1.out.trans (hb3.out.mono hB1))
        · have hke : k = Q.length := by omega
          have hfin : Hid (o = some zs) := Lib.hid (by have := hmp.out; rw [hke, List.take_length] at this; rw [hr.out, this])
          clear hke
          go_wp2
          go_ret2
          exact RL.yes hfin.out rfl (ho.out.le hB1) (HB1.out.trans (hb.out.mono hB1))
theorem rl_len (l : List UInt8) : ((rl l).getD []).length ≤ 64 := by
  unfold rl
  split
  · simp
  · split
    · simp
    · rcases h : mp (spl 44 l) with _ | zs
      · simp
      · have := mp_len h
        simp only [Option.getD_some]; omega
end Go.Proofs.YtjogppgddjfejaaDoor

/-
  Fields between separators, part by part: strings.SplitN and the program's readFields. The library's variable MaxLen holds some number: no other condition of its own.
-/
import Derived.Test.YtommcckihanedaaGreatDoorRdA
import Derived.Test.YtommcckihanedaaGreatDoorTab
import Derived.Lib.SplitLaws
namespace Go.Proofs.YtommcckihanedaaGreatDoor
open Go.RowKit
set_option linter.unusedVariables false

theorem rdAll_snoc {ws : List Nat} {ps : List (List UInt8)} {vs : List Nat} {w v : Nat} {p : List UInt8} (h : Fd.rdAll ws ps = some vs) (h2 : Fd.rd1 w p = some v) : Fd.rdAll (ws ++ [w]) (ps ++ [p]) = some (vs ++ [v]) := by
  induction ws generalizing ps vs with
  | nil => cases ps with
    | nil => simp only [Fd.rdAll, Option.some.injEq] at h; subst h; simp [Fd.rdAll, h2]
    | cons q ps => cases h
  | cons x ws ih => cases ps with
    | nil => cases h
    | cons q ps =>
      simp only [Fd.rdAll] at h
      split at h
      · rename_i u us h3 h4
        simp only [Option.some.injEq] at h
        subst h
        rw [List.cons_append, List.cons_append, Fd.rdAll, h3, ih h4]
        rfl
      · cases h
theorem rdAll_at {ws : List Nat} {ps : List (List UInt8)} {k : Nat} (h1 : k < ws.length) (h2 : k < ps.length) (h : Fd.rd1 ws[k] ps[k] = none) : Fd.rdAll ws ps = none := by
  induction k generalizing ws ps with
  | zero =>
    cases ws with
    | nil => simp at h1
    | cons x ws => cases ps with
      | nil => simp at h2
      | cons q ps =>
        simp only [List.getElem_cons_zero] at h
        rw [Fd.rdAll, h]
  | succ k ih =>
    cases ws with
    | nil => simp at h1
    | cons x ws => cases ps with
      | nil => simp at h2
      | cons q ps =>
        simp only [List.getElem_cons_succ] at h
        rw [Fd.rdAll, ih (by simpa using h1) (by simpa using h2) h]
        split <;> simp_all
/-- whole numbers as the language's -/
def nz (vs : List Nat) : List Int := vs.map fun n : Nat => (n : Int)
theorem nz_length (vs : List Nat) : (nz vs).length = vs.length := by unfold nz; simp
theorem nz_at {vs : List Nat} {k : Nat} (h : k < vs.length) : (nz vs)[k]? = some ((vs[k] : Nat) : Int) := by unfold nz; rw [List.getElem?_map, List.getElem?_eq_getElem h]; rfl
theorem nz_snoc (vs : List Nat) (v : Nat) : nz (vs ++ [v]) = nz vs ++ [(v : Int)] := by unfold nz; rw [List.map_append]; rfl
/-- where the library's search begins to cut over: some number -/
def MaxN (w : World) : Prop := ∃ m : Int, w.cell? ⟨3, 0, none⟩ = some (.int .i64 m)
theorem maxN_of {w : World} (h : w.ShapedOpen Tryz.prog) : MaxN w := Tryz.laysM147.s1_3 w h
theorem MaxN.below {w w1 : World} (h : MaxN w) (hb : Below w.heap.size w w1) : MaxN w1 := by
  obtain ⟨m, hm⟩ := h
  exact ⟨m, (hb.cell (World.block_lt_of_cell? w _ hm)).trans hm⟩
theorem splitN_at (s : ByteArray) (c : UInt8) (n : Nat) (w : World) (hs : s.size ≤ 1048576) (hn : 1 ≤ n) (hn2 : n ≤ 4) (hm : MaxN w) :
    Calls Tryz.prog 41 #[.string s, .string ⟨#[c]⟩, .int .i64 n] w fun e w' => ∃ cap, e = .returned (.slice (some ⟨w.heap.size, 0, none⟩) (Lib.splitK [c] 0 (n - 1) s.data.toList).length cap) ∧ Strs w.heap.size w' (.slice (some ⟨w.heap.size, 0, none⟩) (Lib.splitK [c] 0 (n - 1) s.data.toList).length cap) (Lib.splitK [c] 0 (n - 1) s.data.toList) ∧ Below w.heap.size w w' := by
  obtain ⟨m, hm⟩ := hm
  have hz : s.data.toList.length = s.size := by simp
  have hP := Fd.splitK_min (c := c) s.data.toList n hn
  rw [hz] at hP
  rw [← hP]
  have hd : (Lib.splitB ⟨#[c]⟩ 0 (min n (s.size + 1) - 1) s).map (·.data.toList) = Lib.splitK [c] 0 (min n (s.size + 1) - 1) s.data.toList := Lib.splitB_data ⟨#[c]⟩ 0 _ s
  have hle := Lib.splitB_length_le ⟨#[c]⟩ 0 (min n (s.size + 1) - 1) s
  generalize Lib.splitK [c] 0 (min n (s.size + 1) - 1) s.data.toList = P at *
  have hl : (Lib.splitB ⟨#[c]⟩ 0 (min n (s.size + 1) - 1) s).length = P.length := by rw [← hd, List.length_map]
  have ht : tvl P = (Lib.splitB ⟨#[c]⟩ 0 (min n (s.size + 1) - 1) s).map Value.string := by
    unfold tvl; rw [← hd, List.map_map]
    rfl
  refine (Any.strings_SplitN { Tryz.laysM147 with } Tryz.laysM147.i9 s ⟨#[c]⟩ n m w (by omega) hm (Nat.le_refl 1) (by omega) (by omega)).mono ?_
  rintro e w' ⟨rfl, rfl⟩
  refine ⟨min n (s.size + 1), by rw [hl], ?_, (Below.refl _ _).alloc (Nat.le_refl _) _⟩
  refine ⟨by rw [tvl_length, Nat.mul_one], Or.inr ⟨w.heap.size, _, _, rfl, Nat.le_refl _, heap_alloc_new w _, by omega, by unfold maxLen; omega, by rw [Lib.cellsOf_size (by omega), Nat.mul_one], ?_⟩⟩
  rw [ht, Nat.mul_one, ← hl]
  unfold Lib.cellsOf
  simp
theorem strsForm {B : Nat} {w : World} {v : Value} {ls : List (List UInt8)} (h : Strs B w v ls) (hn : 0 < ls.length) :
    ∃ g cap, v = .slice (some ⟨g, 0, none⟩) ls.length cap ∧ g < w.heap.size ∧ ∀ j b, ls[j]? = some b → w.cell? ⟨g, j, none⟩ = some (.string ⟨b.toArray⟩) := by
  obtain ⟨g, cap, rfl⟩ := Go.Joins.ownsRow_form h hn
  refine ⟨g, cap, rfl, (World.ownsRow.lt h g rfl).2, fun j b hj => ?_⟩
  have hl : j < ls.length := (List.getElem?_eq_some_iff.1 hj).1
  rw [World.ownsRow.cellAt h j (by omega)]
  unfold tvl; rw [List.getElem?_map, hj]; rfl
theorem ownsBelow {B : Nat} {w w1 : World} {e : TypeId} {size : Nat} {v : Value} {n : Nat} {xs : List Value} (h : w.ownsRow B e size v n xs) (hb : Below w.heap.size w w1) : w1.ownsRow B e size v n xs := by
  refine ⟨h.1, ?_⟩
  rcases h.2 with h' | ⟨g, cap, cur, hv, hB, hg, rest⟩
  · exact Or.inl h'
  · have hlt : g < w.heap.size := (Array.getElem?_eq_some_iff.1 hg).1
    exact Or.inr ⟨g, cap, cur, hv, hB, (hb.block g hlt).trans hg, rest⟩
theorem ownLe {B B' : Nat} {w : World} {v : Value} {zs : List Int} (h : Own B w v zs) (hb : B' ≤ B) : Own B' w v zs := Go.Joins.ownsRow_le h hb
theorem ivApp (zs : List Int) (v : Int) : iv (zs ++ [v]) = iv zs ++ [.int .i64 v] := by unfold iv; rw [List.map_append]; rfl
theorem oneNew (w : World) (x : Value) (t : TypeId) : ∀ j u, [x][j]? = some u → (w.alloc (.cells #[x] t)).cell? ((⟨w.heap.size, 0, none⟩ : Addr).add j) = some u := by
  intro j u hj
  match j, hj with
  | 0, hj => simp at hj; subst hj; simp [Addr.add]
  | j + 1, hj => simp at hj
theorem oneCell (k : IntKind) (n : Int) : ∀ u ∈ [Value.int k n], u.oneCell' = true := by intro u hu; simp at hu; subst hu; rfl
theorem digits_at (p : List UInt8) (k : Nat) (w : World) (hk : k ≤ 4) (hp : p.length ≤ 1048576) :
    Calls Tryz.prog 42 #[.string ⟨p.toArray⟩, .int .i64 k] w fun e w' => e = .returned (.tuple #[.int .i64 (((Fd.rd1 k p).getD 0 : Nat) : Int), .bool (Fd.rd1 k p).isSome]) ∧ Below w.heap.size w w' := by
  have := readDigits_any ⟨p.toArray⟩ k w hk (by show p.toArray.size ≤ _; simpa using hp)
  simpa using this
/-- how the reader of fields ends: a row of its own with the numbers and true, or nil and false -/
def RF (w : World) (o : Option (List Nat)) (e : Ending) (w' : World) : Prop := ∃ u, e = .returned (.tuple #[u, .bool o.isSome]) ∧ Own w.heap.size w' u (nz (o.getD [])) ∧ Below w.heap.size w w'
theorem RF.no {w w' : World} {o : Option (List Nat)} {e : Ending} (ho : o = none) (he : e = .returned (.tuple #[.slice none 0 0, .bool false])) (hb : Below w.heap.size w w') : RF w o e w' := by
  subst ho; exact ⟨_, he, World.ownsRow_nil _ _ _ _, hb⟩
theorem RF.yes {w w' : World} {o : Option (List Nat)} {e : Ending} {vs : List Nat} {u : Value} (ho : o = some vs) (he : e = .returned (.tuple #[u, .bool true])) (hu : Own w.heap.size w' u (nz vs)) (hb : Below w.heap.size w w') : RF w o e w' := by
  subst ho; exact ⟨_, he, hu, hb⟩
theorem splitK_part {c : UInt8} : ∀ (k : Nat) (l : List UInt8), ∀ p ∈ Lib.splitK [c] 0 k l, p.length ≤ l.length
  | 0, l, p, h => by simp only [Lib.splitK, List.mem_singleton] at h; rw [h]; exact Nat.le_refl _
  | k + 1, l, p, h => by
    rcases Fd.idx_two c l with ⟨_, h2⟩ | ⟨q, r, rfl, _, h2⟩
    · rw [Fd.splitK_miss _ h2, List.mem_singleton] at h
      rw [h]; exact Nat.le_refl _
    · rw [Fd.splitK_hit k h2] at h
      rcases List.mem_cons.1 h with h | h
      · subst h; simp
      · have := splitK_part k r p h
        simp; omega

set_option maxRecDepth 100000 in
set_option maxHeartbeats 3200000 in
theorem readFields_any (s : ByteArray) (c : UInt8) (ws : List Nat) (v : Value) (w : World) (hs : s.size ≤ 1048576) (hv : Sl w v (nz ws)) (h1 : 1 ≤ ws.length) (h2 : ws.length ≤ 4) (hle : ∀ x ∈ ws, x ≤ 4) (hm : MaxN w) :
    Calls Tryz.prog 23 #[.string s, .string ⟨#[c]⟩, v] w (RF w (Fd.rdAll ws (Lib.splitK [c] 0 (ws.length - 1) s.data.toList))) := by
  obtain ⟨i0, hi, hz0, hz1, hz2⟩ := info_parts info_i64
  have hln := nz_length ws
  rcases hv with ⟨hz, -⟩ | ⟨b, off, cap0, rfl, hbl, hc⟩
  · rw [hz] at hln; simp at hln; omega
  rw [hln]
  have C := Lib.hid (splitN_at s c ws.length w hs h1 h2 hm)
  have hpos := Fd.splitK_pos c (ws.length - 1) s.data.toList
  have hsl : s.data.toList.length = s.size := by simp
  have hpl := splitK_part (c := c) (ws.length - 1) s.data.toList
  have HPL : Hid (∀ p ∈ Lib.splitK [c] 0 (ws.length - 1) s.data.toList, p.length ≤ 1048576) := Lib.hid (fun p hp => by have := hpl p hp; omega)
  have HW : Hid (∀ k, (h : k < ws.length) → w.cell? ⟨b, off + k, none⟩ = some (.int .i64 ((ws[k] : Nat) : Int)) ∧ ws[k] ≤ 4) := Lib.hid (fun k h => ⟨hc k _ (nz_at h), hle _ (List.getElem_mem h)⟩)
  clear hc hle hm hpl hsl hln
  generalize Lib.splitK [c] 0 (ws.length - 1) s.data.toList = P at *
  generalize hRo : Fd.rdAll ws P = o at *
  have hR := Lib.hid hRo
  clear hRo
  obtain ⟨p1, p2⟩ := hpos
  go_enter Tryz.func23, Tryz.ntmps23
  go_wp2_with fail
  refine C.out.mono ?_
  rintro e w1 ⟨cap, rfl, hst, hb1⟩
  obtain ⟨g, cap', hg0, hg, hcl⟩ := strsForm hst (by omega)
  simp only [Value.slice.injEq, Option.some.injEq, Addr.mk.injEq, and_true] at hg0
  obtain ⟨rfl, -, rfl⟩ := hg0
  have HC := Lib.hid hcl
  have HB1 := Lib.hid hb1
  have hB1 := hb1.size
  clear hst hcl hb1
  by_cases hshort : P.length < ws.length
  · have hr : Hid (o = none) := Lib.hid (by rw [← hR.out]; exact Fd.rdAll_short (by omega))
    have hl' : ((P.length : Int) < (ws.length : Int)) := by omega
    clear hshort
    go_wp2
    go_ret2
    exact RF.no hr.out rfl HB1.out
  · have hl' : ¬ ((P.length : Int) < (ws.length : Int)) := by omega
    have hPl : P.length = ws.length := by omega
    clear hshort
    go_wp2_with (at_make; refine wpList_make_own _ rfl _ _ 39 rfl w1.heap.size 2 i0 (.int .i64 0) 1 Tryz.underlying39 hi hz0 hz1 .i64 .i64 _ ws.length rfl rfl rfl ?m1 ?m2 ?m3 ?_)
    case m1 => first | omega | (rw [hz2]; omega)
    case m2 => unfold maxLen; omega
    case m3 => exact Nat.le_refl _
    intro w1b hown hgr
    have HO : Hid (Own w1.heap.size w1b (.slice (some ⟨w1.heap.size, 0, none⟩) 0 ws.length) (nz [])) := Lib.hid hown
    have HBb : Hid (Below w1.heap.size w1 w1b) := Lib.hid ((Below.refl _ w1).grown hgr (Nat.le_refl _) (fun k hk => by cases hk))
    clear hown hgr
    go_wp2
    go_loopw [9, 29] (fun ov iv wr => ∃ (k : Nat) (vs : List Nat), k ≤ ws.length ∧ vs.length = k ∧ iv = .int .i64 k ∧ Hid (Own w1.heap.size wr ov (nz vs)) ∧ Hid (Below w1.heap.size w1 wr) ∧ Hid (Fd.rdAll (ws.take k) (P.take k) = some vs)) (fun _ iv _ => ws.length - (intOf iv).toNat)
    case atStart => exact ⟨0, [], Nat.zero_le _, rfl, rfl, HO, HBb, Lib.hid rfl⟩
    case round =>
      obtain ⟨k, vs, hk, hzk, rfl, ho, hb, hmp⟩ := hrel
      have HZK := Lib.hid hzk
      have hzk' : vs.length ≤ 4 := by omega
      have hnz := nz_length vs
      clear hzk
      by_cases hlt : k < ws.length
      · have hlt2 : k < P.length := by omega
        have hpk : P[k]? = some P[k] := List.getElem?_eq_getElem hlt2
        have c1 : wr.cell? ⟨w.heap.size, k, none⟩ = some (.string ⟨(P[k]).toArray⟩) := (hb.out.cell (p := ⟨w.heap.size, k, none⟩) hg).trans (HC.out k _ hpk)
        obtain ⟨cw, k4⟩ := HW.out k hlt
        have c2 : wr.cell? ⟨b, off + k, none⟩ = some (.int .i64 ((ws[k] : Nat) : Int)) := (hb.out.cell (p := ⟨b, off + k, none⟩) (by show b < _; omega)).trans ((HB1.out.cell (p := ⟨b, off + k, none⟩) hbl).trans cw)
        have hpn := HPL.out P[k] (List.getElem_mem hlt2)
        have hsn : Hid (ws.take (k + 1) = ws.take k ++ [ws[k]] ∧ P.take (k + 1) = P.take k ++ [P[k]]) := Lib.hid ⟨by rw [List.take_succ_eq_append_getElem hlt], by rw [List.take_succ_eq_append_getElem hlt2]⟩
        have HNo : Hid (Fd.rd1 ws[k] P[k] = none → o = none) := Lib.hid (fun h => by rw [← hR.out]; exact rdAll_at hlt hlt2 h)
        clear hpk cw
        generalize P[k] = p at *
        generalize ws[k] = wk at *
        have CN := Lib.hid (digits_at p wk wr k4 hpn)
        have hbs := hb.out.size
        rcases hrd : Fd.rd1 wk p with _ | v
        · have hfin : Hid (o = none) := Lib.hid (HNo.out hrd)
          rw [hrd] at CN
          clear hrd
          go_wp2_with fail
          refine CN.out.mono ?_
          rintro e w2 ⟨rfl, hb2⟩
          have hb3 : Hid (Below w1.heap.size w1 w2) := Lib.hid (hb.out.trans (hb2.mono hbs))
          have hbs3 := hb3.out.size
          clear hb2
          go_wp2_with fail
          go_ret2
          exact RF.no hfin.out rfl (HB1.out.trans (hb3.out.mono hB1))
        · have hn : Hid (Fd.rdAll (ws.take (k + 1)) (P.take (k + 1)) = some (vs ++ [v])) := Lib.hid (by rw [hsn.out.1, hsn.out.2]; exact rdAll_snoc hmp.out hrd)
          rw [hrd] at CN
          clear hrd
          go_wp2_with fail
          refine CN.out.mono ?_
          rintro e w2 ⟨rfl, hb2⟩
          have hb3 : Hid (Below w1.heap.size w1 w2) := Lib.hid (hb.out.trans (hb2.mono hbs))
          have ho3 : Hid (Own w1.heap.size w2 _ (nz vs)) := Lib.hid (ownsBelow ho.out hb2)
          have hbs3 := hb3.out.size
          clear hb2
          go_wp2_with (at_builtin; refine wpList_append_own _ rfl _ _ 39 rfl w1.heap.size 2 i0 (.int .i64 0) 1 8 Tryz.underlying39 hi hz0 hz1 hz2 rfl (by decide) _ _ _ rfl (ho3.out.alloc _) ⟨w2.heap.size, 0, none⟩ 1 1 [.int .i64 v] rfl rfl (oneNew _ _ _) (oneCell _ _) ?c3 ?c4 ?c5 ?_)
          case c3 => unfold maxLen; omega
          case c4 => omega
          case c5 => first | omega | (simp; omega)
          intro v' w3 hown' hgrow _
          have hnx : Hid (Own w1.heap.size w3 v' (nz (vs ++ [v]))) := Lib.hid (by unfold Own; rw [nz_snoc, ivApp, List.length_append, nz_length]; exact hown')
          have hnb : Hid (Below w1.heap.size w1 w3) := Lib.hid ((hb3.out.alloc hbs3 _).grown hgrow (by simp; omega) (fun j hj => (ho3.out.lt j hj).1))
          clear hown' hgrow ho hb ho3 hb3
          go_wp2
          exact ⟨⟨k + 1, vs ++ [v], by omega, by rw [List.length_append, HZK.out]; rfl, by go_num, hnx, hnb, hn⟩, by simp only [intOf]; omega⟩
      · have hke : k = ws.length := by omega
        have hfin : Hid (o = some vs) := Lib.hid (by have := hmp.out; rw [hke, List.take_length, ← hPl, List.take_length] at this; rw [← hR.out, this])
        clear hke
        go_wp2
        go_ret2
        exact RF.yes hfin.out rfl (ownLe ho.out hB1) (HB1.out.trans (hb.out.mono hB1))
end Go.Proofs.YtommcckihanedaaGreatDoor

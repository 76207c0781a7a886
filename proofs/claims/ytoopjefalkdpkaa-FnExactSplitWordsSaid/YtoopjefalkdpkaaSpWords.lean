import Derived.Test.YtoopjefalkdpkaaStrs
import Derived.Test.YtoopjefalkdpkaaWords
import Derived.Test.YtoopjefalkdpkaaShelf
namespace Go.Proofs.Ytoopjefalkdpkaa
open Go.RowKit
set_option linter.unusedVariables false

theorem strs_cells {B : Nat} {w : World} {v : Value} {ls : List (List UInt8)} (h : Strs B w v ls) (hn : 0 < ls.length) :
    ∃ g cap, v = .slice (some ⟨g, 0, none⟩) ls.length cap ∧ g < w.heap.size ∧ ∀ j x, ls[j]? = some x → w.cell? ⟨g, j, none⟩ = some (.string ⟨x.toArray⟩) := by
  obtain ⟨g, cap, rfl⟩ := Go.Joins.ownsRow_form h hn
  refine ⟨g, cap, rfl, (World.ownsRow.lt h g rfl).2, fun j x hx => ?_⟩
  have hj : j < ls.length := (List.getElem?_eq_some_iff.1 hx).1
  rw [World.ownsRow.cellAt h j (by omega)]
  unfold tvl; rw [List.getElem?_map, hx]; rfl
theorem filt_keep {ls : List (List UInt8)} {k : Nat} (h : k < ls.length) (hp : (ls[k]).isEmpty = false) : (ls.take (k + 1)).filter (fun p => !p.isEmpty) = (ls.take k).filter (fun p => !p.isEmpty) ++ [ls[k]] := by
  rw [List.take_succ_eq_append_getElem h, List.filter_append, List.filter_cons, hp]; rfl
theorem filt_drop {ls : List (List UInt8)} {k : Nat} (h : k < ls.length) (hp : (ls[k]).isEmpty = true) : (ls.take (k + 1)).filter (fun p => !p.isEmpty) = (ls.take k).filter (fun p => !p.isEmpty) := by
  rw [List.take_succ_eq_append_getElem h, List.filter_append, List.filter_cons, hp]; simp
theorem spl_len' (c : UInt8) : ∀ l : List UInt8, (spl c l).length ≤ l.length + 1
  | [] => by simp [spl]
  | x :: r => by
    have := spl_len' c r
    rw [spl]
    split
    · simp; omega
    · split
      · simp
      · rename_i p ps h; rw [h] at this; simp at this ⊢; omega
theorem words_len (l : List UInt8) : (words l).length ≤ l.length + 1 := Nat.le_trans (List.length_filter_le _ _) (spl_len' 32 l)

set_option maxHeartbeats 3200000 in
theorem specSplitWords_any (s : ByteArray) (w : World) (hs : s.size ≤ 1048576) :
    Calls Try.prog 11 #[.string s] w fun e w' => ∃ v, e = .returned v ∧ Strs w.heap.size w' v (words s.data.toList) ∧ Below w.heap.size w w' := by
  obtain ⟨i0, hi, hz0, hz1, hz2⟩ := info_parts info_strs
  have C := Lib.hid (l01Split_any s 32 w hs)
  have hln := spl_len' 32 s.data.toList
  have hpos := List.length_pos_iff.2 (spl_ne 32 s.data.toList)
  have hsz : s.data.toList.length = s.size := by simp
  have hL : (spl 32 s.data.toList).length ≤ 1048577 := by omega
  have HW : Hid (words s.data.toList = (spl 32 s.data.toList).filter fun p => !p.isEmpty) := Lib.hid rfl
  clear hln hsz
  generalize words s.data.toList = R at *
  generalize spl 32 s.data.toList = ls at *
  go_enter Try.func11, Try.ntmps11
  go_wp2_with fail
  refine C.out.mono ?_
  rintro e w1 ⟨v, rfl, ho, hb1⟩
  obtain ⟨g, cap, rfl, hg, hc⟩ := strs_cells ho hpos
  have HC := Lib.hid hc
  have HB1 := Lib.hid hb1
  have hs1 := hb1.size
  clear C ho hc hb1
  go_wp2_with fail
  go_loopw [4, 5] (fun ov iv wr => ∃ (k : Nat) (d : List (List UInt8)), k ≤ ls.length ∧ d.length ≤ k ∧ iv = .int .i64 k ∧ Hid (Strs w1.heap.size wr ov d) ∧ Hid (Below w1.heap.size w1 wr) ∧ Hid (d = (ls.take k).filter fun p => !p.isEmpty)) (fun _ iv _ => ls.length - (intOf iv).toNat)
  case atStart => exact ⟨0, [], Nat.zero_le _, Nat.le_refl _, rfl, Lib.hid (World.ownsRow_lit _ _ _ (Nat.le_refl _) (by decide) (by decide)), Lib.hid ((Below.refl _ _).alloc (Nat.le_refl _) _), Lib.hid rfl⟩
  case round =>
    obtain ⟨k, d, hk, hd, rfl, ho, hb, heq⟩ := hrel
    have hbs := hb.out.size
    by_cases hlt : k < ls.length
    · have c1 : wr.cell? ⟨g, k, none⟩ = some (.string ⟨(ls[k]).toArray⟩) := (hb.out.cell (p := ⟨g, k, none⟩) hg).trans (HC.out k _ (List.getElem?_eq_getElem hlt))
      by_cases he : (ls[k]).isEmpty = true
      · have hn : Hid (d = (ls.take (k + 1)).filter fun p => !p.isEmpty) := Lib.hid (by rw [filt_drop hlt he]; exact heq.out)
        generalize ls[k] = x at *
        have hx : x = [] := by simpa using he
        subst hx
        clear he
        go_wp2
        exact ⟨⟨k + 1, d, by omega, by omega, by go_num, ho, hb, hn⟩, by simp only [intOf]; omega⟩
      · have hef : (ls[k]).isEmpty = false := by simpa using he
        have hn : Hid (d ++ [ls[k]] = (ls.take (k + 1)).filter fun p => !p.isEmpty) := Lib.hid (by rw [filt_keep hlt hef]; rw [← heq.out])
        clear he
        generalize ls[k] = x at *
        go_wp2_with (at_builtin; refine wpList_append_own _ rfl _ _ 23 rfl w1.heap.size 9 i0 (.string ⟨#[]⟩) 1 16 Try.underlying23 hi hz0 hz1 hz2 rfl (by decide) _ _ _ rfl (ho.out.alloc _) ⟨wr.heap.size, 0, none⟩ 1 1 [.string ⟨x.toArray⟩] rfl rfl (one_new _ _ _) (one_strs _) ?c3 ?c4 ?c5 ?_)
        case c3 => unfold maxLen; omega
        case c4 => omega
        case c5 => first | omega | (simp; omega)
        intro v' w2 hown' hgrow _
        have hnx : Hid (Strs w1.heap.size w2 v' (d ++ [x])) := Lib.hid (by
          unfold Strs; rw [tvl_snoc, List.length_append]; exact hown')
        have hnb : Hid (Below w1.heap.size w1 w2) := Lib.hid ((hb.out.alloc hbs _).grown hgrow (by simp; omega) (fun j hj => (ho.out.lt j hj).1))
        clear hown' hgrow ho hb
        go_wp2
        exact ⟨⟨k + 1, d ++ [x], by omega, by rw [List.length_append]; simp; omega, by go_num, hnx, hnb, hn⟩, by simp only [intOf]; omega⟩
    · have hkz : k = ls.length := by omega
      have hf : Hid (d = R) := Lib.hid (by have := heq.out; rw [hkz, List.take_length] at this; rw [HW.out]; exact this)
      clear hkz
      go_wp2
      go_ret
      exact ⟨_, rfl, by rw [← hf.out]; exact Go.Joins.ownsRow_le ho.out hs1, HB1.out.trans (hb.out.mono hs1)⟩
theorem ret_bool2 {a b : Bool} (h : a = b) : Ending.returned (.bool a) = .returned (.bool b) := by rw [h]
theorem blank_any (x : Nat) (W : World) :
    Calls Try.prog 30 #[.int .i32 (x : Int)] W fun e w' => e = .returned (.bool (decide (x = 32))) ∧ W = w' := by
  by_cases h : x = 32
  · subst h
    go_enter Try.func30, Try.ntmps30
    go_wp2
    go_ret
    exact ⟨rfl, rfl⟩
  · have hx : ((x : Int) == 32) = false := by rw [beq_eq_false_iff_ne]; omega
    have hd : Hid (decide (x = 32) = false) := Lib.hid (by simpa using h)
    clear h
    go_enter Try.func30, Try.ntmps30
    go_wp2
    go_ret
    exact ⟨ret_bool2 hd.out.symm, rfl⟩
theorem blank_runes (w : World) : PredAtRunes Try.prog 30 #[] (fun x => decide (x = 32)) w := fun W x _ _ =>
  (blank_any x W).mono fun e w' h => ⟨h.1, 0, by rw [← h.2]; rfl⟩
theorem implSplitWords_any (s : ByteArray) (w : World) (hs : s.size ≤ 1048576) :
    Calls Try.prog 12 #[.string s] w fun e w' => ∃ v, e = .returned v ∧ Strs w.heap.size w' v (words s.data.toList) ∧ Below w.heap.size w w' := by
  have c := Try.strings_FieldsFunc_runes 30 #[] (fun _ _ => rfl) (fun x => decide (x = 32)) s w (by omega) (blank_runes w)
  have HF := Lib.hid (fields_words s)
  have C := Lib.hid c
  clear c
  go_enter Try.func12, Try.ntmps12
  go_wp2_with fail
  refine C.out.mono ?_
  rintro e w1 ⟨A, rfl, hA, ho, hb⟩
  have hS : Hid (Strs w.heap.size w1 (.slice (some ⟨A, 0, none⟩) (Lib.goFieldsP (fun x => decide (x = 32)) s).length (Lib.goFieldsP (fun x => decide (x = 32)) s).length) (words s.data.toList)) := Lib.hid (by
    unfold Strs tvl
    rw [← HF.out, List.length_map, List.map_map]
    exact ho)
  have HB := Lib.hid hb
  clear ho hb C HF
  generalize (Lib.goFieldsP (fun x => decide (x = 32)) s).length = n at *
  go_wp2_with fail
  go_ret
  exact ⟨_, rfl, hS.out, HB.out⟩
end Go.Proofs.Ytoopjefalkdpkaa

/-
  ProfileText of chapter 3, by the program. Pow: the library's table of powers of ten holds what its text lays.
-/
import Derived.Test.YtmieckchppfogaaDoorPrT
namespace Go.Proofs.YtmieckchppfogaaDoor
open Go.RowKit Go.ChangeShapes Go.WideShapes Go.Deep
set_option linter.unusedVariables false
set_option maxRecDepth 100000

namespace La
/-- the texts of the first k layers -/
def itl (xs : List Lay) (k : Nat) : List ByteArray := (xs.take k).map fun x => ⟨(tl x).toArray⟩
theorem itl_snoc {xs : List Lay} {k : Nat} (h : k < xs.length) : itl xs (k + 1) = itl xs k ++ [⟨(tl xs[k]).toArray⟩] := by
  unfold itl; rw [List.take_succ_eq_append_getElem h, List.map_append]; rfl
theorem itl_length {xs : List Lay} {k : Nat} (h : k ≤ xs.length) : (itl xs k).length = k := by unfold itl; simp; omega
theorem pt_itl (xs : List Lay) (k : Nat) : Lib.join ((itl xs k).map (·.data.toList)) [59] = pt xs k := by
  unfold pt itl
  rw [List.map_map]
  congr 1
theorem pt_len {xs : List Lay} (hf : ∀ x ∈ xs, okL x = true) : ∀ k, k ≤ xs.length → (pt xs k).length ≤ 150 * k := by
  intro k
  induction k with
  | zero => intro _; rw [pt_zero]; simp
  | succ k ih =>
    intro hk
    have := tl_len (hf xs[k] (List.getElem_mem hk))
    have := ih (by omega)
    rcases Nat.eq_zero_or_pos k with h | h
    · subst h; rw [pt_one hk]; omega
    · rw [pt_succ hk h]; simp only [List.length_append, List.length_cons, List.length_nil]; omega
end La
theorem join59_any (B : Nat) (w : World) (g cap n : Nat) (xs : List ByteArray) (h : w.ownsRow B 9 1 (.slice (some ⟨g, 0, none⟩) n cap) n (tv xs)) (hx : xs.length = n) (hn : n ≤ 1048576) (hc : n ≤ cap)
    (hlen : (Lib.join (xs.map (·.data.toList)) [59]).length ≤ 140737488355328) :
    Calls Tryd.prog 53 #[.slice (some ⟨g, 0, none⟩) n cap, .string ⟨#[59]⟩] w fun e w' => e = .returned (.string ⟨(Lib.join (xs.map (·.data.toList)) [59]).toArray⟩) ∧ Below w.heap.size w w' := by
  subst hx
  refine Tryd.strings_Join g 0 cap xs ⟨#[59]⟩ w (fun j x hj => ?_) (h.lt g rfl).2 (by omega) hc hlen
  have hl : j < xs.length := (List.getElem?_eq_some_iff.1 hj).1
  rw [Nat.zero_add, h.cellAt j (by omega)]
  unfold tv; rw [List.getElem?_map, hj]; rfl

set_option maxHeartbeats 1600000 in
theorem text_any (x : Lay) (w : World) (hp : Pow w) (hx : La.okL x = true) :
    Calls Tryd.prog 40 #[.agg #[.int .i64 x.fo, .int .i64 x.ic, .int .i64 x.wa, .int .i64 x.de, .int .i64 x.dg, .int .i64 x.ha, .int .i64 x.ag]] w fun e w' => e = .returned (.string ⟨(La.tl x).toArray⟩) ∧ Below w.heap.size w w' := by
  have hbx : boxed w x 56 = w.alloc (.cells #[.int .i64 x.fo, .int .i64 x.ic, .int .i64 x.wa, .int .i64 x.de, .int .i64 x.dg, .int .i64 x.ha, .int .i64 x.ag] 56) := rfl
  have HB := Lib.hid (boxed_below w x 56)
  obtain ⟨c0, c1, c2, c3, c4, c5, c6⟩ := (boxed_cells w x 56).zero
  have D := Lib.hid (implListText_any _ _ (La.lv x) (sl_seven (boxed w x 56) x 2) (by simp [La.lv]) (hp.below (bt HB.out ((Below.refl _ _).alloc (Nat.le_refl _) _))))
  rw [La.lt_lv hx] at D
  have B2 : Hid (∀ w2, Below ((boxed w x 56).alloc (.cells #[.int .i64 x.fo, .int .i64 x.ic, .int .i64 x.wa, .int .i64 x.de, .int .i64 x.dg, .int .i64 x.ha, .int .i64 x.ag] 2)).heap.size ((boxed w x 56).alloc (.cells #[.int .i64 x.fo, .int .i64 x.ic, .int .i64 x.wa, .int .i64 x.de, .int .i64 x.dg, .int .i64 x.ha, .int .i64 x.ag] 2)) w2 → Below w.heap.size w w2) := Lib.hid (fun w2 h => bt (bt HB.out ((Below.refl _ _).alloc (Nat.le_refl _) _)) h)
  rw [boxed_size] at D
  clear hp hx HB
  unfold boxed at D B2 c0 c1 c2 c3 c4 c5 c6
  clear hbx
  go_enter Tryd.func40, Tryd.ntmps40
  go_wp2_with fail
  refine D.out.mono ?_
  rintro e w2 ⟨rfl, b2⟩
  have HB2 := Lib.hid (B2.out w2 b2)
  go_wp2_with fail
  go_ret
  exact ⟨rfl, HB2.out⟩

set_option maxHeartbeats 3200000 in
theorem joinedL_any (w : World) (v : Value) (xs : List Lay) (hv : LSl w v xs) (h16 : xs.length ≤ 16) (h0 : ¬ xs.length = 0) (hf : ∀ x ∈ xs, La.okL x = true) (hp : Pow w) :
    Calls Tryd.prog 39 #[v, .string ⟨#[59]⟩, .func (.func 40) #[] #[]] w fun e w' => e = .returned (.string ⟨(La.pt xs xs.length).toArray⟩) ∧ Below w.heap.size w w' := by
  obtain ⟨i0, hi, hz0, hz1, hz2⟩ := info_parts info_str
  have eg := enters_of Tryd.func40 (by kernel_rfl) rfl
  obtain ⟨a, cap, rfl⟩ := hv.form
  have HV := Lib.hid hv
  have HP := Lib.hid hp
  have HF := Lib.hid hf
  have HN0 := Lib.hid h0
  clear hv hp hf h0
  go_enter Tryd.func39, Tryd.ntmps39
  go_wp2_with (at_make; refine wpList_make_own _ rfl _ _ 73 rfl w.heap.size 9 i0 (.string ⟨#[]⟩) 1 Tryd.underlying73 hi hz0 hz1 .i64 .i64 _ xs.length rfl rfl rfl ?c1 ?c2 ?c3 ?_)
  case c1 => first | omega | (rw [hz2]; omega)
  case c2 => first | (unfold maxLen; omega) | omega
  case c3 => first | omega | exact Nat.le_refl _
  intro w1 hown hg
  have HO := Lib.hid hown
  have HB : Hid (Below w.heap.size w w1) := Lib.hid ((Below.refl w.heap.size w).grown hg (Nat.le_refl _) (fun k hk => by cases hk))
  clear hown hg
  go_wp2
  go_loopw [7, 15] (fun pv i wr => ∃ k : Nat, k ≤ xs.length ∧ i = .int .i64 k ∧ Hid (wr.ownsRow w.heap.size 9 1 pv k (tv (La.itl xs k))) ∧ Hid (Below w.heap.size w wr)) (fun _ i _ => xs.length - (intOf i).toNat)
  case atStart => exact ⟨0, Nat.zero_le _, rfl, HO, HB⟩
  case round =>
    obtain ⟨k, hk, rfl, ho, hb⟩ := hrel
    by_cases hlt2 : k < xs.length
    · have hltz : (k : Int) < (xs.length : Int) := by omega
      obtain ⟨b, off, cap', hn, hbl, hc⟩ := HV.out.at_ hlt2
      simp only [Value.slice.injEq] at hn
      obtain ⟨rfl, -, rfl⟩ := hn
      have hok := HF.out xs[k] (List.getElem_mem hlt2)
      obtain ⟨c0, c1, c2, c3, c4, c5, c6⟩ := (hc k hlt2).below hb.out hbl
      have hsn := Lib.hid (La.itl_snoc hlt2)
      have hbs := hb.out.size
      have T := fun W h => Lib.hid (text_any xs[k] W h hok)
      clear hc hok
      generalize La.tl xs[k] = t at *
      generalize xs[k] = x at *
      go_wp2_with fail
      have B3 := Lib.hid (hb.out.alloc hbs (.cells #[.int .i64 x.fo, .int .i64 x.ic, .int .i64 x.wa, .int .i64 x.de, .int .i64 x.dg, .int .i64 x.ha, .int .i64 x.ag] 56))
      have O3 := Lib.hid (ho.out.alloc (.cells #[.int .i64 x.fo, .int .i64 x.ic, .int .i64 x.wa, .int .i64 x.de, .int .i64 x.dg, .int .i64 x.ha, .int .i64 x.ag] 56))
      refine (T _ (HP.out.below B3.out)).out.mono ?_
      rintro e w2 ⟨rfl, hb2⟩
      have ho2 := Lib.hid (ownsRow_belowAll O3.out hb2)
      have hb3 : Hid (Below w.heap.size w w2) := Lib.hid (bt B3.out hb2)
      have hbs2 := hb3.out.size
      clear ho hb B3 O3 hb2
      go_wp2_with (at_builtin; refine wpList_append_own _ rfl _ _ 73 rfl w.heap.size 9 i0 (.string ⟨#[]⟩) 1 16 Tryd.underlying73 hi hz0 hz1 hz2 rfl (by decide) _ _ _ rfl (ho2.out.alloc _) ⟨w2.heap.size, 0, none⟩ 1 1 [.string ⟨t.toArray⟩] rfl rfl (one_new _ _ _) (one_str _) ?d3 ?d4 ?d5 ?_)
      case d3 => unfold maxLen; omega
      case d4 => omega
      case d5 => first | omega | (simp; omega)
      intro v' w3 hown' hgrow _
      have hnx : Hid (w3.ownsRow w.heap.size 9 1 v' (k + 1) (tv (La.itl xs (k + 1)))) := Lib.hid (by rw [hsn.out]; unfold tv; rw [List.map_append]; exact hown')
      have hnb : Hid (Below w.heap.size w w3) := Lib.hid ((hb3.out.alloc hbs2 _).grown hgrow (by simp; omega) (fun j hj => (ho2.out.lt j hj).1))
      clear hown' hgrow ho2
      go_wp2
      exact ⟨⟨k + 1, by omega, by go_num, hnx, hnb⟩, by simp only [intOf]; omega⟩
    · have hltz : ¬ (k : Int) < (xs.length : Int) := by omega
      have hkz : k = xs.length := by omega
      subst hkz
      have hpl := La.pt_len HF.out xs.length (Nat.le_refl _)
      obtain ⟨g, cap2, rfl⟩ := Go.Joins.ownsRow_form ho.out (by have := HN0.out; omega)
      have C := Lib.hid (join59_any w.heap.size wr g cap2 xs.length (La.itl xs xs.length) ho.out (La.itl_length (Nat.le_refl _)) (by omega) (own_cap ho.out) (by rw [La.pt_itl]; omega))
      rw [La.pt_itl] at C
      have HB2 := hb.out.size
      clear ho hpl
      go_wp2_with fail
      refine C.out.mono ?_
      rintro e w2 ⟨rfl, hb2⟩
      go_wp2_with fail
      go_ret
      exact ⟨rfl, hb.out.trans (hb2.mono HB2)⟩
set_option maxHeartbeats 3200000 in
theorem implProfileText_any (w : World) (v : Value) (xs : List Lay) (hv : LSl w v xs) (hl : xs.length ≤ 1048576) (hp : Pow w) :
    Calls Tryd.prog 19 #[v] w fun e w' => e = .returned (.string ⟨(La.ptx xs).toArray⟩) ∧ Below w.heap.size w w' := by
  have C := Lib.hid (implValidProfile_any w v xs hv hl)
  have CJ := Lib.hid (fun W (hb : Below w.heap.size w W) h16 h0 hf => joinedL_any W v xs (hv.below hb) h16 h0 hf (hp.below hb))
  obtain ⟨a, cap, rfl⟩ := hv.form
  clear hv hp
  cases hq : La.okP xs with
  | false =>
    have hr := Lib.hid (La.ptx_no hq)
    rw [hq] at C
    clear hq CJ
    go_enter Tryd.func19, Tryd.ntmps19
    go_wp2_with fail
    refine C.out.mono ?_
    rintro e w1 ⟨rfl, b1⟩
    go_wp2_with fail
    go_ret
    exact ⟨by rw [hr.out]; rfl, b1⟩
  | true =>
    have hr := Lib.hid (La.ptx_ok hq)
    have h2 := (La.okP_iff xs).1 hq
    have h16 := h2.1
    have HF : Hid (∀ x ∈ xs, La.okL x = true) := Lib.hid (fun x hx => (La.okL_iff x).2 (h2.2 x hx))
    rw [hq] at C
    clear hq h2
    by_cases hz : xs.length = 0
    · have hz' : ((xs.length : Int) == 0) = true := beq_iff_eq.2 (by omega)
      rw [if_pos hz] at hr
      clear hz CJ
      go_enter Tryd.func19, Tryd.ntmps19
      go_wp2_with fail
      refine C.out.mono ?_
      rintro e w1 ⟨rfl, b1⟩
      go_wp2_with fail
      go_ret
      exact ⟨by rw [hr.out]; rfl, b1⟩
    · have hz' : ((xs.length : Int) == 0) = false := beq_eq_false_iff_ne.2 (by omega)
      rw [if_neg hz] at hr
      have CJ := Lib.hid (fun W hb => CJ.out W hb h16 hz HF.out)
      rw [← hr.out] at CJ
      clear hz hr
      generalize La.ptx xs = t at *
      go_enter Tryd.func19, Tryd.ntmps19
      go_wp2_with fail
      refine C.out.mono ?_
      rintro e v1 ⟨rfl, b1⟩
      have B1 := Lib.hid b1
      clear b1
      go_wp2_with fail
      refine (CJ.out _ B1.out).mono ?_
      rintro e v2 ⟨rfl, b2⟩
      have B2 := Lib.hid (bt B1.out b2)
      clear b2
      go_wp2_with fail
      go_ret
      exact ⟨rfl, B2.out⟩
end Go.Proofs.YtmieckchppfogaaDoor

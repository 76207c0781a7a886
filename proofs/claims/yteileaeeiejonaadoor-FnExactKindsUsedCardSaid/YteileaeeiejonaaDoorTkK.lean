/-
  Numbers put to their places among rising ones, and the kinds of tests, by the model and by the program. The condition of the program's side: impl.testRules holds what the program's text lays.
-/
import Derived.Test.YteileaeeiejonaaDoorGrp
import Derived.Test.YteileaeeiejonaaDoorTkE
import Derived.Test.YteileaeeiejonaaDoorShelfM
namespace Go.Proofs.YteileaeeiejonaaDoor
open Go.RowKit Go.Shelf Go.Maps
set_option linter.unusedVariables false
set_option maxRecDepth 100000

namespace Tq
def ptS (n : Int) (s : List Int × Bool) (z : Int) : List Int × Bool := if s.2 = false ∧ n ≤ z then (s.1 ++ (if n < z then [n] else []) ++ [z], true) else (s.1 ++ [z], s.2)
def ptF (n : Int) (zs : List Int) : List Int × Bool := zs.foldl (ptS n) ([], false)
/-- a number put to its place among rising ones, once -/
def pt (n : Int) (zs : List Int) : List Int := if (ptF n zs).2 = true then (ptF n zs).1 else (ptF n zs).1 ++ [n]
theorem ptF_take {n : Int} {zs : List Int} {k : Nat} (h : k < zs.length) : ptF n (zs.take (k + 1)) = ptS n (ptF n (zs.take k)) zs[k] := by
  rw [List.take_succ_eq_append_getElem h]; unfold ptF; rw [List.foldl_append]; rfl
theorem ptF_len (n : Int) (zs : List Int) : ∀ k, k ≤ zs.length → (ptF n (zs.take k)).1.length ≤ 2 * k := by
  intro k
  induction k with
  | zero => intro _; rw [List.take_zero]; exact Nat.le_refl _
  | succ k ih =>
    intro h
    have := ih (by omega)
    rw [ptF_take (by omega)]
    unfold ptS
    split
    · split <;> simp <;> omega
    · simp; omega
def l3 (b1 b2 b3 : Bool) : List Int := (if b1 then [1] else []) ++ (if b2 then [2] else []) ++ (if b3 then [3] else [])
theorem l3_put (b1 b2 b3 : Bool) : pt 1 (l3 b1 b2 b3) = l3 true b2 b3 ∧ pt 2 (l3 b1 b2 b3) = l3 b1 true b3 ∧ pt 3 (l3 b1 b2 b3) = l3 b1 b2 true := by
  cases b1 <;> cases b2 <;> cases b3 <;> decide
theorem l3_up (b1 b2 b3 : Bool) : (l3 b1 b2 b3).Pairwise (fun x y => decide (x ≤ y) = true) := by cases b1 <;> cases b2 <;> cases b3 <;> decide
theorem l3_nd (b1 b2 b3 : Bool) : (l3 b1 b2 b3).Nodup := by cases b1 <;> cases b2 <;> cases b3 <;> decide
theorem l3_len (b1 b2 b3 : Bool) : (l3 b1 b2 b3).length ≤ 3 := by cases b1 <;> cases b2 <;> cases b3 <;> decide
def kd (x : Tst) : Int := x.ki
/-- the kinds that there are -/
def kn (xs : List Tst) : List Int := l3 (decide (0 < gc kd 1 xs)) (decide (0 < gc kd 2 xs)) (decide (0 < gc kd 3 xs))
theorem kn_take {xs : List Tst} {k : Nat} (h : k < xs.length) (hF : Fits xs[k]) : pt xs[k].ki (kn (xs.take k)) = kn (xs.take (k + 1)) := by
  have h1 := hF.k1
  have h2 := hF.k2
  have hk : kd xs[k] = xs[k].ki := rfl
  obtain ⟨p1, p2, p3⟩ := l3_put (decide (0 < gc kd 1 (xs.take k))) (decide (0 < gc kd 2 (xs.take k))) (decide (0 < gc kd 3 (xs.take k)))
  unfold kn
  rw [gc_take kd 1 h, gc_take kd 2 h, gc_take kd 3 h, hk]
  have hq : xs[k].ki = 1 ∨ xs[k].ki = 2 ∨ xs[k].ki = 3 := by omega
  rcases hq with hq | hq | hq <;> rw [hq]
  · rw [p1]; simp
  · rw [p2]; simp
  · rw [p3]; simp
theorem mem_l3 {q : Int} {b1 b2 b3 : Bool} : q ∈ l3 b1 b2 b3 ↔ (q = 1 ∧ b1 = true) ∨ (q = 2 ∧ b2 = true) ∨ (q = 3 ∧ b3 = true) := by
  unfold l3
  cases b1 <;> cases b2 <;> cases b3 <;> simp
theorem kn_mem {xs : List Tst} (hF : ∀ x ∈ xs, Fits x) (q : Int) : q ∈ kn xs ↔ 0 < gc kd q xs := by
  unfold kn
  rw [mem_l3]
  simp only [decide_eq_true_eq]
  constructor
  · rintro (⟨rfl, h⟩ | ⟨rfl, h⟩ | ⟨rfl, h⟩) <;> exact h
  · intro h
    have hg := h
    unfold gc at h
    obtain ⟨x, hx⟩ := List.exists_mem_of_length_pos h
    rw [List.mem_filter] at hx
    have F := hF x hx.1
    have h1 := F.k1
    have h2 := F.k2
    have hxq : x.ki = q := by have := hx.2; simpa [kd] using this
    have hq : q = 1 ∨ q = 2 ∨ q = 3 := by omega
    rcases hq with rfl | rfl | rfl
    · exact Or.inl ⟨rfl, hg⟩
    · exact Or.inr (Or.inl ⟨rfl, hg⟩)
    · exact Or.inr (Or.inr ⟨rfl, hg⟩)
def kuL (xs : List Tst) : List Int := if okS xs = true then kn xs else []
def kuC (xs : List Tst) : Int := if okS xs = true then 0 else 1
theorem kuL_len (xs : List Tst) : (kuL xs).length ≤ 1048576 := by
  unfold kuL
  split
  · exact Nat.le_trans (l3_len _ _ _) (by decide)
  · exact Nat.zero_le _
theorem ku_t {xs : List Tst} (h : okS xs = true) : kuL xs = kn xs ∧ kuC xs = 0 := by unfold kuL kuC; rw [h]; simp
theorem ku_f {xs : List Tst} (h : okS xs = false) : kuL xs = [] ∧ kuC xs = 1 := by unfold kuL kuC; rw [h]; simp
end Tq
set_option maxHeartbeats 3200000 in
theorem l00Put_any (w : World) (v : Value) (zs : List Int) (n : Int) (hv : Sl w v zs) (hl : zs.length ≤ 1048576) :
    Calls Tryd.prog 76 #[v, .int .i64 n] w (RJt w (Tq.pt n zs)) := by
  obtain ⟨i0, hi, hz0, hz1, hz2⟩ := info_parts info_i64
  obtain ⟨a, cap, rfl⟩ := hv.form
  have HV := Lib.hid hv
  have O1 : Hid (Own w.heap.size (w.alloc (.cells #[] 2)) (.slice (some ⟨w.heap.size, 0, none⟩) 0 0) (Tq.ptF n (zs.take 0)).1) := Lib.hid (World.ownsRow_lit _ _ _ (Nat.le_refl _) (by decide) (by decide))
  have B1 := Lib.hid ((Below.refl w.heap.size w).alloc (Nat.le_refl _) (.cells #[] 2))
  clear hv
  go_enter Tryd.func76, Tryd.ntmps76
  go_wp2
  go_loopw [5, 6, 7] (fun u s6 i wr => ∃ k : Nat, k ≤ zs.length ∧ s6 = .bool (Tq.ptF n (zs.take k)).2 ∧ i = .int .i64 k ∧ Hid (Own w.heap.size wr u (Tq.ptF n (zs.take k)).1) ∧ Hid (Below w.heap.size w wr)) (fun _ _ i _ => zs.length - (intOf i).toNat)
  case atStart => exact ⟨0, Nat.zero_le _, rfl, rfl, O1, B1⟩
  case round =>
    obtain ⟨k, hk, rfl, rfl, hO, hb⟩ := hrel
    clear O1 B1
    have hpl := Tq.ptF_len n zs k hk
    by_cases hlt : k < zs.length
    · have hltz : (k : Int) < (zs.length : Int) := by omega
      obtain ⟨b, off, cap1, hn, hbl, hcc⟩ := (HV.out.below hb.out).atI hlt
      simp only [Value.slice.injEq] at hn
      obtain ⟨rfl, -, rfl⟩ := hn
      have c0 := hcc k hlt
      have HZ := Lib.hid (fun W (h : Below w.heap.size w W) => by
        obtain ⟨b2, off2, cap2, hn2, -, hc2⟩ := (HV.out.below h).atI hlt
        simp only [Value.slice.injEq, Option.some.injEq, Addr.mk.injEq] at hn2
        obtain ⟨⟨rfl, rfl, -⟩, -, -⟩ := hn2
        exact (hc2 k hlt : W.cell? ⟨b, off + k, none⟩ = some (.int .i64 zs[k])))
      clear hcc
      cases hd : (Tq.ptF n (zs.take k)).2 with
      | true =>
        have hs : Hid (Tq.ptF n (zs.take (k + 1)) = ((Tq.ptF n (zs.take k)).1 ++ [zs[k]], true)) := Lib.hid (by rw [Tq.ptF_take hlt]; unfold Tq.ptS; rw [if_neg (by rw [hd]; simp), hd])
        clear hd
        generalize (Tq.ptF n (zs.take k)).1 = l at *
        generalize zs[k] = z at *
        go_wp2_with (at_builtin; refine wpList_append_own _ rfl _ _ 41 rfl w.heap.size 2 i0 (.int .i64 0) 1 8 Tryd.underlying41 hi hz0 hz1 hz2 rfl (by decide) _ _ _ rfl (own_belowAll hO.out ((Below.refl _ _).alloc (Nat.le_refl _) _)) ⟨wr.heap.size, 0, none⟩ 1 1 [.int .i64 z] rfl rfl (row_new _ [_] _) (iv_cell [z]) (by unfold maxLen; omega) (by omega) (by have := hb.out.size; first | omega | (simp; omega)) ?_)
        intro v2 wa hown' hgrow _
        have Owa := Lib.hid (show Own w.heap.size wa v2 (l ++ [z]) by unfold Own; rw [iv_append, List.length_append]; first | exact hown' | (rw [List.length_append]; exact hown'))
        have Bwa : Hid (Below w.heap.size w wa) := Lib.hid ((hb.out.alloc hb.out.size _).grown hgrow (by have := hb.out.size; simp; omega) (fun j hj => (World.ownsRow.lt hO.out j hj).1))
        clear hown' hgrow hO hb
        go_wp2
        exact ⟨⟨k + 1, by omega, by rw [hs.out], by go_num, Lib.hid (by rw [hs.out]; exact Owa.out), Bwa⟩, by simp only [intOf]; omega⟩
      | false =>
        by_cases hz : n ≤ zs[k]
        · by_cases hz2' : n < zs[k]
          · have hs : Hid (Tq.ptF n (zs.take (k + 1)) = ((Tq.ptF n (zs.take k)).1 ++ [n] ++ [zs[k]], true)) := Lib.hid (by rw [Tq.ptF_take hlt]; unfold Tq.ptS; rw [if_pos ⟨hd, hz⟩, if_pos hz2'])
            clear hd
            generalize (Tq.ptF n (zs.take k)).1 = l at *
            generalize zs[k] = z at *
            go_wp2_with (at_builtin; refine wpList_append_own _ rfl _ _ 41 rfl w.heap.size 2 i0 (.int .i64 0) 1 8 Tryd.underlying41 hi hz0 hz1 hz2 rfl (by decide) _ _ _ rfl (own_belowAll hO.out ((Below.refl _ _).alloc (Nat.le_refl _) _)) ⟨wr.heap.size, 0, none⟩ 1 1 [.int .i64 n] rfl rfl (row_new _ [_] _) (iv_cell [n]) (by unfold maxLen; omega) (by omega) (by have := hb.out.size; first | omega | (simp; omega)) ?_)
            intro v2 wa hown' hgrow _
            have Owa := Lib.hid (show Own w.heap.size wa v2 (l ++ [n]) by unfold Own; rw [iv_append, List.length_append]; first | exact hown' | (rw [List.length_append]; exact hown'))
            have Bwa : Hid (Below w.heap.size w wa) := Lib.hid ((hb.out.alloc hb.out.size _).grown hgrow (by have := hb.out.size; simp; omega) (fun j hj => (World.ownsRow.lt hO.out j hj).1))
            clear hown' hgrow hO hb
            have d0 : wa.cell? ⟨b, off + k, none⟩ = some (.int .i64 z) := HZ.out _ Bwa.out
            have hgl2 : b < wa.heap.size := World.block_lt_of_cell? wa _ d0
            have hll : (l ++ [n]).length ≤ 2 * k + 1 := by rw [List.length_append]; simp; omega
            go_wp2_with (at_builtin; refine wpList_append_own _ rfl _ _ 41 rfl w.heap.size 2 i0 (.int .i64 0) 1 8 Tryd.underlying41 hi hz0 hz1 hz2 rfl (by decide) _ _ _ rfl (own_belowAll Owa.out ((Below.refl _ _).alloc (Nat.le_refl _) _)) ⟨wa.heap.size, 0, none⟩ 1 1 [.int .i64 z] rfl rfl (row_new _ [_] _) (iv_cell [z]) (by unfold maxLen; omega) (by omega) (by have := Bwa.out.size; first | omega | (simp; omega)) ?_)
            intro v3 wb hown' hgrow _
            have Owb := Lib.hid (show Own w.heap.size wb v3 (l ++ [n] ++ [z]) by unfold Own; rw [iv_append, List.length_append]; first | exact hown' | (rw [List.length_append]; exact hown'))
            have Bwb : Hid (Below w.heap.size w wb) := Lib.hid ((Bwa.out.alloc Bwa.out.size _).grown hgrow (by have := Bwa.out.size; simp; omega) (fun j hj => (World.ownsRow.lt Owa.out j hj).1))
            clear hown' hgrow Owa Bwa
            go_wp2
            exact ⟨⟨k + 1, by omega, by rw [hs.out], by go_num, Lib.hid (by rw [hs.out]; exact Owb.out), Bwb⟩, by simp only [intOf]; omega⟩
          · have hs : Hid (Tq.ptF n (zs.take (k + 1)) = ((Tq.ptF n (zs.take k)).1 ++ [zs[k]], true)) := Lib.hid (by rw [Tq.ptF_take hlt]; unfold Tq.ptS; rw [if_pos ⟨hd, hz⟩, if_neg hz2']; simp)
            clear hd
            generalize (Tq.ptF n (zs.take k)).1 = l at *
            generalize zs[k] = z at *
            go_wp2_with (at_builtin; refine wpList_append_own _ rfl _ _ 41 rfl w.heap.size 2 i0 (.int .i64 0) 1 8 Tryd.underlying41 hi hz0 hz1 hz2 rfl (by decide) _ _ _ rfl (own_belowAll hO.out ((Below.refl _ _).alloc (Nat.le_refl _) _)) ⟨wr.heap.size, 0, none⟩ 1 1 [.int .i64 z] rfl rfl (row_new _ [_] _) (iv_cell [z]) (by unfold maxLen; omega) (by omega) (by have := hb.out.size; first | omega | (simp; omega)) ?_)
            intro v2 wa hown' hgrow _
            have Owa := Lib.hid (show Own w.heap.size wa v2 (l ++ [z]) by unfold Own; rw [iv_append, List.length_append]; first | exact hown' | (rw [List.length_append]; exact hown'))
            have Bwa : Hid (Below w.heap.size w wa) := Lib.hid ((hb.out.alloc hb.out.size _).grown hgrow (by have := hb.out.size; simp; omega) (fun j hj => (World.ownsRow.lt hO.out j hj).1))
            clear hown' hgrow hO hb
            go_wp2
            exact ⟨⟨k + 1, by omega, by rw [hs.out], by go_num, Lib.hid (by rw [hs.out]; exact Owa.out), Bwa⟩, by simp only [intOf]; omega⟩
        · have hs : Hid (Tq.ptF n (zs.take (k + 1)) = ((Tq.ptF n (zs.take k)).1 ++ [zs[k]], false)) := Lib.hid (by rw [Tq.ptF_take hlt]; unfold Tq.ptS; rw [if_neg (fun h => hz h.2), hd])
          clear hd
          generalize (Tq.ptF n (zs.take k)).1 = l at *
          generalize zs[k] = z at *
          go_wp2_with (at_builtin; refine wpList_append_own _ rfl _ _ 41 rfl w.heap.size 2 i0 (.int .i64 0) 1 8 Tryd.underlying41 hi hz0 hz1 hz2 rfl (by decide) _ _ _ rfl (own_belowAll hO.out ((Below.refl _ _).alloc (Nat.le_refl _) _)) ⟨wr.heap.size, 0, none⟩ 1 1 [.int .i64 z] rfl rfl (row_new _ [_] _) (iv_cell [z]) (by unfold maxLen; omega) (by omega) (by have := hb.out.size; first | omega | (simp; omega)) ?_)
          intro v2 wa hown' hgrow _
          have Owa := Lib.hid (show Own w.heap.size wa v2 (l ++ [z]) by unfold Own; rw [iv_append, List.length_append]; first | exact hown' | (rw [List.length_append]; exact hown'))
          have Bwa : Hid (Below w.heap.size w wa) := Lib.hid ((hb.out.alloc hb.out.size _).grown hgrow (by have := hb.out.size; simp; omega) (fun j hj => (World.ownsRow.lt hO.out j hj).1))
          clear hown' hgrow hO hb
          go_wp2
          exact ⟨⟨k + 1, by omega, by rw [hs.out], by go_num, Lib.hid (by rw [hs.out]; exact Owa.out), Bwa⟩, by simp only [intOf]; omega⟩
    · have hltz : ¬ (k : Int) < (zs.length : Int) := by omega
      have hkn : zs.take k = zs := List.take_of_length_le (by omega)
      cases hd : (Tq.ptF n (zs.take k)).2 with
      | true =>
        have hp : Hid (Tq.pt n zs = (Tq.ptF n (zs.take k)).1) := Lib.hid (by have h0 : Tq.ptF n (zs.take k) = Tq.ptF n zs := (by rw [hkn]); unfold Tq.pt; rw [← h0, hd, if_pos rfl])
        clear hd hkn
        generalize (Tq.ptF n (zs.take k)).1 = l at *
        go_wp2
        go_ret
        exact ⟨_, rfl, by rw [hp.out]; exact hO.out, hb.out⟩
      | false =>
        have hp : Hid (Tq.pt n zs = (Tq.ptF n (zs.take k)).1 ++ [n]) := Lib.hid (by have h0 : Tq.ptF n (zs.take k) = Tq.ptF n zs := (by rw [hkn]); unfold Tq.pt; rw [← h0, hd, if_neg (by simp)])
        clear hd hkn
        generalize (Tq.ptF n (zs.take k)).1 = l at *
        go_wp2_with (at_builtin; refine wpList_append_own _ rfl _ _ 41 rfl w.heap.size 2 i0 (.int .i64 0) 1 8 Tryd.underlying41 hi hz0 hz1 hz2 rfl (by decide) _ _ _ rfl (own_belowAll hO.out ((Below.refl _ _).alloc (Nat.le_refl _) _)) ⟨wr.heap.size, 0, none⟩ 1 1 [.int .i64 n] rfl rfl (row_new _ [_] _) (iv_cell [n]) (by unfold maxLen; omega) (by omega) (by have := hb.out.size; first | omega | (simp; omega)) ?_)
        intro v2 wa hown' hgrow _
        have Owa := Lib.hid (show Own w.heap.size wa v2 (l ++ [n]) by unfold Own; rw [iv_append, List.length_append]; first | exact hown' | (rw [List.length_append]; exact hown'))
        have Bwa : Hid (Below w.heap.size w wa) := Lib.hid ((hb.out.alloc hb.out.size _).grown hgrow (by have := hb.out.size; simp; omega) (fun j hj => (World.ownsRow.lt hO.out j hj).1))
        clear hown' hgrow hO hb
        go_wp2
        go_ret
        exact ⟨_, rfl, by rw [hp.out]; exact Owa.out, Bwa.out⟩
set_option maxHeartbeats 3200000 in
theorem specKindsUsed_any (w : World) (v : Value) (xs : List Tst) (hv : TeSl w v xs) (hl : xs.length ≤ 1048576) :
    Calls Tryd.prog 37 #[v] w (RIt w (Tq.kuL xs) (Tq.kuC xs)) := by
  have C := Lib.hid (l08Ok_any w v xs hv hl)
  obtain ⟨a, cap, rfl⟩ := hv.form
  have HV := Lib.hid hv
  clear hv
  cases hq : Tq.okS xs with
  | false =>
    obtain ⟨e1, e2⟩ := Tq.ku_f hq
    rw [e1, e2]
    rw [hq] at C
    clear hq e1 e2
    go_enter Tryd.func37, Tryd.ntmps37
    go_wp2_with fail
    refine C.out.mono ?_
    rintro e w1 ⟨rfl, b1⟩
    have B1 := Lib.hid b1
    clear b1
    go_wp2_with fail
    go_ret2
    exact RIt.no B1.out
  | true =>
    have HF := Lib.hid (fun k (hk : k < xs.length) => Tq.fits_at hq hk)
    have h16 := Lib.hid (Tq.len_ok hq)
    obtain ⟨e1, e2⟩ := Tq.ku_t hq
    rw [e1, e2]
    rw [hq] at C
    clear hq e1 e2
    go_enter Tryd.func37, Tryd.ntmps37
    go_wp2_with fail
    refine C.out.mono ?_
    rintro e w1 ⟨rfl, b1⟩
    have B1 := Lib.hid b1
    clear b1
    go_wp2_with fail
    have O1 : Hid (Own w.heap.size (w1.alloc (.cells #[] 2)) (.slice (some ⟨w1.heap.size, 0, none⟩) 0 0) (Tq.kn (xs.take 0))) := Lib.hid (World.ownsRow_lit _ _ _ B1.out.size (by decide) (by decide))
    have B2 := Lib.hid (B1.out.alloc B1.out.size (.cells #[] 2))
    go_loopw [4, 5] (fun u i wr => ∃ k : Nat, k ≤ xs.length ∧ i = .int .i64 k ∧ Hid (Own w.heap.size wr u (Tq.kn (xs.take k))) ∧ Hid (Below w.heap.size w wr)) (fun _ i _ => xs.length - (intOf i).toNat)
    case atStart => exact ⟨0, Nat.zero_le _, rfl, O1, B2⟩
    case round =>
      obtain ⟨k, hk, rfl, hO, hb⟩ := hrel
      clear O1 B2
      by_cases hlt : k < xs.length
      · have hltz : (k : Int) < (xs.length : Int) := by omega
        obtain ⟨b, off, cap1, hn, hbl, hcc⟩ := (HV.out.below hb.out).at_ hlt
        simp only [Value.slice.injEq] at hn
        obtain ⟨rfl, -, rfl⟩ := hn
        have c0 := (hcc k hlt).c0
        have hkt := Lib.hid (Tq.kn_take hlt (HF.out k hlt))
        obtain ⟨ua, ucap, rfl⟩ := (Own.sl hO.out).form
        have CP := Lib.hid (fun W (h : Below wr.heap.size wr W) => l00Put_any W _ (Tq.kn (xs.take k)) xs[k].ki (Own.sl (own_belowAll hO.out h)) (Nat.le_trans (Tq.l3_len _ _ _) (by decide)))
        clear hcc
        go_wp2_with fail
        refine (CP.out _ (Below.refl _ _)).mono ?_
        rintro e w2 ⟨u2, rfl, o2, b2⟩
        have O2 := Lib.hid (Go.Joins.ownsRow_le o2 hb.out.size)
        have B2 := Lib.hid (bt hb.out b2)
        clear o2 b2
        go_wp2_with fail
        exact ⟨⟨k + 1, by omega, by go_num, Lib.hid (by rw [← hkt.out]; exact O2.out), B2⟩, by simp only [intOf]; omega⟩
      · have hltz : ¬ (k : Int) < (xs.length : Int) := by omega
        have hh : xs.take k = xs := List.take_of_length_le (by omega)
        rw [hh] at hO
        clear hh
        obtain ⟨ua, ucap, rfl⟩ := (Own.sl hO.out).form
        go_wp2
        go_ret2
        exact RIt.yes rfl rfl hO.out hb.out
theorem kindFn_any (x : Tst) (w : World) : Calls Tryd.prog 77 #[.agg #[.int .i64 x.ki, .int .i64 x.sc, .int .i64 x.qu, .int .i64 x.de, .int .i64 x.ho]] w fun e w' => e = .returned (.int .i64 (Tq.kd x)) ∧ Below w.heap.size w w' := by
  go_enter Tryd.func77, Tryd.ntmps77
  go_wp2
  go_ret
  exact ⟨rfl, (Below.refl _ _).alloc (Nat.le_refl _) _⟩
theorem GB.hasnt {B b k : Nat} {w : World} {D : DataW Unit} {M : Int → Option En} (h : GB B w b k D M) {q : Int} (hq : M q = none) : Maps.has D (kI q) = false := by
  cases hh : Maps.has D (kI q) with
  | false => rfl
  | true =>
    exfalso
    obtain ⟨es, rfl⟩ := h.isM
    rw [has_eq] at hh
    have hp : ∃ p, es.find? (fun p => p.1.sameKey (kI q)) = some p := by
      rw [← Option.isSome_iff_exists, List.find?_isSome]
      simpa [List.any_eq_true] using hh
    obtain ⟨p, hp⟩ := hp
    have a1 := h.miss q hq .nil
    have a2 := h.miss q hq (.map [])
    simp only [DataW.atKey, hp] at a1 a2
    rw [a1] at a2
    cases a2
theorem GB.size_le {B b k : Nat} {w : World} {D : DataW Unit} {M : Int → Option En} (h : GB B w b k D M) : Maps.size D ≤ k := by
  obtain ⟨es, clock, hb, F, hs, rfl⟩ := h.own
  rw [Maps.size_eq, List.Perm.length_eq (Go.WideShapes.sorted_perm _), List.length_map, Array.length_toList]
  exact hs
set_option maxHeartbeats 3200000 in
theorem implKindsUsed_any (w : World) (v : Value) (xs : List Tst) (hv : TeSl w v xs) (hl : xs.length ≤ 1048576) (hR : RulesT w) :
    Calls Tryd.prog 38 #[v] w (RIt w (Tq.kuL xs) (Tq.kuC xs)) := by
  have C := Lib.hid (implValidTests_any w v xs hv hl hR)
  obtain ⟨a, cap, rfl⟩ := hv.form
  have HV := Lib.hid hv
  clear hv hR
  cases hq : Tq.okS xs with
  | false =>
    obtain ⟨e1, e2⟩ := Tq.ku_f hq
    rw [e1, e2]
    rw [hq] at C
    clear hq e1 e2
    go_enter Tryd.func38, Tryd.ntmps38
    go_wp2_with fail
    refine C.out.mono ?_
    rintro e w1 ⟨rfl, b1⟩
    have B1 := Lib.hid b1
    clear b1
    go_wp2_with fail
    go_ret2
    exact RIt.no B1.out
  | true =>
    have HF := Lib.hid ((Tq.okS_iff xs).1 hq).2.1
    have h16 := Tq.len_ok hq
    obtain ⟨e1, e2⟩ := Tq.ku_t hq
    rw [e1, e2]
    rw [hq] at C
    have CG := Lib.hid (fun W (hb : Below w.heap.size w W) => groupsTst_any 77 Tq.kd W _ xs (enters_of Tryd.func77 (by kernel_rfl) rfl) (by omega) (HV.out.below hb) (fun k hk => by have h1 := (HF.out _ (List.getElem_mem hk)).k1; have h2 := (HF.out _ (List.getElem_mem hk)).k2; unfold Tq.kd; omega) (fun k hk W2 h2 => kindFn_any xs[k] W2))
    clear hq e1 e2
    go_enter Tryd.func38, Tryd.ntmps38
    go_wp2_with fail
    refine C.out.mono ?_
    rintro e w1 ⟨rfl, b1⟩
    have B1 := Lib.hid b1
    clear b1
    go_wp2_with fail
    refine (CG.out _ B1.out).mono ?_
    rintro e w2 ⟨D, M, rfl, hG, hN, b2⟩
    have B2 := Lib.hid (bt B1.out b2)
    have hsz := hG.size_le
    have hperm : Hid ((Tq.kn xs).Perm (intKeys D)) := Lib.hid (CollectedI.perm (left := fun _ => false) ⟨Tq.l3_nd _ _ _, fun x => by
      rw [Tq.kn_mem HF.out]
      cases hM : M x with
      | none => have h1 := (hN x).1 hM; have h2 := hG.hasnt hM; unfold kI at h2; rw [h2]; simp; omega
      | some e => have h1 := (hN x).2 e hM; have h2 := hG.has x e hM; unfold kI at h2; rw [h2]; simp; omega⟩ hG.own (int_keyed Tryd.underlying2) Tryd.underlying2 (fun _ => rfl))
    have CS := Lib.hid (Tryd.sorted_any w1.heap.size xs.length D RG w2 hG.own (by unfold maxLen; omega) (by omega))
    have BX := Lib.hid (B2.out.alloc B2.out.size (.cells #[.map (some w1.heap.size)] 78))
    clear b2 hG hN CG hsz
    go_wp2_with fail
    refine (Tryd.keys_any _ _).mono ?_
    rintro e w3 ⟨rfl, rfl⟩
    go_wp2_with fail
    refine CS.out.mono ?_
    rintro e w4 ⟨u, ss, rfl, hp, hrow, -, b4⟩
    have hsrt : ss.mergeSort (fun x y => decide (x ≤ y)) = Tq.kn xs := (mergeSort_of_perm_i (hp.trans hperm.out.symm)).trans (List.mergeSort_of_pairwise (Tq.l3_up _ _ _))
    have hlen : ss.length = (Tq.kn xs).length := (hp.trans hperm.out.symm).length_eq
    rw [hsrt, hlen] at hrow
    have O4 : Hid (Own w.heap.size w4 u (Tq.kn xs)) := Lib.hid (Go.Joins.ownsRow_le hrow (Nat.le_trans BX.out.size (Nat.le_refl _)))
    have B4 := Lib.hid (bt BX.out b4)
    clear hrow b4 hsrt hlen hp
    obtain ⟨ua, ucap, rfl⟩ := (Own.sl O4.out).form
    go_wp2_with fail
    go_ret2
    exact RIt.yes rfl rfl O4.out B4.out
end Go.Proofs.YteileaeeiejonaaDoor

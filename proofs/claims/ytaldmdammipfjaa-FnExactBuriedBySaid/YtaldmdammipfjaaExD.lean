/-
  How much mass settles on each asset (chapter 15), by the model and by the program. The condition: no name and no list of cells is longer than 2^20 (beyond it the laws answer at once).
-/
import Derived.Test.YtaldmdammipfjaaExB
import Derived.Test.YtaldmdammipfjaaTmB
import Derived.Test.YtaldmdammipfjaaSumF
import Derived.Test.YtaldmdammipfjaaPt
namespace Go.Proofs.Ytaldmdammipfjaa
open Go.RowKit Go.Shelf Go.Deep
set_option linter.unusedVariables false
set_option maxRecDepth 100000
namespace Ex
theorem od0 {a b o : Bool} (h : odC a b o = 0) : a = true ∧ b = true ∧ o = true := by
  cases a <;> cases b <;> cases o <;> first | exact ⟨rfl, rfl, rfl⟩ | (revert h; decide)
def buO (zs ms : List Int) : Bool := decide (ms.length = zs.length) && Ms.okI ms 1000000
def byC (r c s : Int) (zs : List Int) (xs : List Ast) (ms : List Int) : Int := odC (vl r c s zs xs) true (buO zs ms)
def byL (r c s : Int) (zs : List Int) (xs : List Ast) (ms : List Int) : List Int := if byC r c s zs xs ms = 0 then xs.map (bu1 ms) else []
section
variable {r c s : Int} {zs ms : List Int} {xs : List Ast}
theorem by_no (h : byC r c s zs xs ms ≠ 0) : byL r c s zs xs ms = [] := by unfold byL; rw [if_neg h]
theorem by_yes (h : byC r c s zs xs ms = 0) : byL r c s zs xs ms = xs.map (bu1 ms) := by unfold byL; rw [if_pos h]
theorem byL_len (ms : List Int) (h : xs.length ≤ 1048576) : (byL r c s zs xs ms).length ≤ 1048576 := by
  unfold byL; split
  · rw [List.length_map]; exact h
  · simp
theorem buO_ok (h : Gw.ok r c s zs = true) : buO zs ms = Ms.okM ms zs.length := by
  have hl := ((Gw.ok_iff _ _ _ _).1 h).len
  unfold buO
  by_cases e : ms.length = zs.length
  · rw [decide_eq_true e, Bool.true_and, Ms.okM_t e hl]
  · rw [decide_eq_false e, Bool.false_and, Ms.okM_f e]
/-- what stands fast where all is as asked -/
structure ByOk (zs : List Int) (xs : List Ast) (ms : List Int) : Prop where
  n64 : zs.length ≤ 64
  len : ms.length = zs.length
  x12 : xs.length ≤ 12
  mv : ∀ k (hk : k < ms.length), 0 ≤ ms[k] ∧ ms[k] ≤ 1000000
  ce : ∀ x ∈ xs, x.ce.length ≤ 64 ∧ ∀ y ∈ x.ce, 0 ≤ y ∧ y < (ms.length : Int)
theorem up_le {n : Nat} : ∀ (xs : List Int) (p : Option Int) (lo : Int), Rl.up p xs = true → (∀ x ∈ xs, lo ≤ x ∧ x < lo + n) → xs.length ≤ n
  | [], _, _, _, _ => Nat.zero_le _
  | x :: xs, p, lo, h, hb => by
    have hx := hb x (List.mem_cons_self ..)
    have h2 : Rl.up (some x) xs = true := by
      have h' : (Rl.be p x && Rl.up (some x) xs) = true := h
      rw [Bool.and_eq_true] at h'; exact h'.2
    have hgt : ∀ (ys : List Int) (q : Int), Rl.up (some q) ys = true → ∀ y ∈ ys, q < y := by
      intro ys
      induction ys with
      | nil => intro q _ y hy; cases hy
      | cons z ys ih =>
        intro q hq y hy
        have h' : (Rl.be (some q) z && Rl.up (some z) ys) = true := hq
        rw [Bool.and_eq_true] at h'
        have hz : q < z := of_decide_eq_true h'.1
        rcases List.mem_cons.1 hy with rfl | hy
        · exact hz
        · have := ih z h'.2 y hy; omega
    have hn : 1 ≤ n := by omega
    have := up_le (n := n - 1) xs (some x) (lo + 1) h2 (fun y hy => by
      have h3 := hgt xs x h2 y hy
      have h4 := hb y (List.mem_cons_of_mem _ hy)
      omega)
    rw [List.length_cons]; omega
theorem ok1_ce {n : Nat} {x : Ast} (h : ok1 n x = true) : x.ce.length ≤ n := by
  obtain ⟨-, -, h3, h4, -, -⟩ := ok1_of h
  exact up_le x.ce none 0 h4 (fun y hy => by have := h3 y hy; omega)
theorem by_0 (h : byC r c s zs xs ms = 0) : Gw.ok r c s zs = true ∧ okL zs.length xs = true ∧ Ms.okM ms zs.length = true ∧ ByOk zs xs ms := by
  obtain ⟨h1, -, h3⟩ := od0 h
  unfold vl at h1
  rw [Bool.and_eq_true] at h1
  have h4 : Ms.okM ms zs.length = true := by rw [← buO_ok h1.1]; exact h3
  obtain ⟨m1, m2⟩ := Ms.okM_of h4
  have hn := ((Gw.ok_iff _ _ _ _).1 h1.1).len
  refine ⟨h1.1, h1.2, h4, hn, m1, (okL_of h1.2).1, m2, fun x hx => ?_⟩
  have hx1 := (okL_of h1.2).2 x hx
  exact ⟨Nat.le_trans (ok1_ce hx1) hn, fun y hy => by have := (ok1_of hx1).2.2.1 y hy; rw [m1]; exact this⟩
theorem msAt_of {ms : List Int} {m : Nat} (h : m < ms.length) : msAt ms (m : Int) = ms[m] := by
  unfold msAt; rw [Int.toNat_natCast, List.getD_eq_getElem?_getD, List.getElem?_eq_getElem h]; rfl
end
end Ex
set_option maxHeartbeats 6400000 in
theorem specBuriedBy_any (w : World) (r c s : Int) (v : Value) (zs : List Int) (u : Value) (xs : List Ast) (t : Value) (ms : List Int) (hv : Sl w v zs) (hl : zs.length ≤ 1048576) (hu : AsSl w u xs) (hul : xs.length ≤ 1048576) (hi : As.Sh xs) (ht : Sl w t ms) (hml : ms.length ≤ 1048576) :
    Calls Try.prog 16 #[.agg #[.int .i64 r, .int .i64 c, .int .i64 s, v], u, t] w (RIp w (Ex.byL r c s zs xs ms) (Ex.byC r c s zs xs ms)) := by
  obtain ⟨i0, hi0, hz0, hz1, hz2⟩ := info_parts info_i64
  have HB := Lib.hid (boxG_below w r c s v 29)
  have HK := Lib.hid (fun W (h : Below (boxG w r c s v 29).heap.size (boxG w r c s v 29) W) => (boxG_kept h : GC W w.heap.size r c s v))
  have C := Lib.hid (l09Ok_any (boxG w r c s v 29) w.heap.size r c s v zs (boxG_cells w r c s v 29) (hv.below HB.out) hl)
  have HU := Lib.hid hu
  have HT := Lib.hid ht
  obtain ⟨ua, ucap, rfl⟩ := hu.form
  obtain ⟨ta, tcap, rfl⟩ := ht.form
  clear hv hu ht
  cases hq : Gw.ok r c s zs with
  | false =>
    have HC : Hid (Ex.byC r c s zs xs ms = 1) := Lib.hid (by unfold Ex.byC; rw [Ex.vl_f hq]; rfl)
    have E := Lib.hid (Ex.by_no (r := r) (c := c) (s := s) (zs := zs) (xs := xs) (ms := ms) (by rw [HC.out]; decide))
    rw [E.out, HC.out]
    rw [hq] at C
    clear hq E HC
    go_enter Try.func16, Try.ntmps16
    go_wp2_with fail
    refine C.out.mono ?_
    rintro e w1 ⟨rfl, b1⟩
    have B1 := Lib.hid (bt HB.out b1)
    clear b1
    go_wp2_with fail
    go_ret2
    exact RIp.no B1.out
  | true =>
    have G := Lib.hid ((Gw.ok_iff _ _ _ _).1 hq)
    have CL := Lib.hid (fun W (h : Below (boxG w r c s v 29).heap.size (boxG w r c s v 29) W) => l15List_any W w.heap.size r c s v zs (HK.out W h) G.out (.slice ua xs.length ucap) xs (HU.out.below (bt HB.out h)) hul hi)
    have CM := Lib.hid (fun W (h : Below (boxG w r c s v 29).heap.size (boxG w r c s v 29) W) => l13Masses_any W w.heap.size r c s v (.slice ta ms.length tcap) zs ms (HK.out W h) G.out (HT.out.below (bt HB.out h)) hml)
    rw [hq] at C
    cases hL : Ex.okL zs.length xs with
    | false =>
      have HC : Hid (Ex.byC r c s zs xs ms = 1) := Lib.hid (by unfold Ex.byC; rw [Ex.vl_t hq, hL]; rfl)
      have E := Lib.hid (Ex.by_no (r := r) (c := c) (s := s) (zs := zs) (xs := xs) (ms := ms) (by rw [HC.out]; decide))
      rw [E.out, HC.out]
      rw [hL] at CL
      clear hq E HC hL
      go_enter Try.func16, Try.ntmps16
      go_wp2_with fail
      refine C.out.mono ?_
      rintro e w1 ⟨rfl, b1⟩
      have N1 := Lib.hid b1
      clear b1
      go_wp2_with fail
      refine (CL.out _ N1.out).mono ?_
      rintro e w2 ⟨rfl, b2⟩
      have B2 := Lib.hid (bt (bt HB.out N1.out) b2)
      clear b2
      go_wp2_with fail
      go_ret2
      exact RIp.no B2.out
    | true =>
      rw [hL] at CL
      cases hM : Ms.okM ms zs.length with
      | false =>
        have HC : Hid (Ex.byC r c s zs xs ms = 7) := Lib.hid (by unfold Ex.byC; rw [Ex.vl_t hq, hL, Ex.buO_ok hq, hM]; rfl)
        have E := Lib.hid (Ex.by_no (r := r) (c := c) (s := s) (zs := zs) (xs := xs) (ms := ms) (by rw [HC.out]; decide))
        rw [E.out, HC.out]
        rw [hM] at CM
        clear hq E HC hL hM
        go_enter Try.func16, Try.ntmps16
        go_wp2_with fail
        refine C.out.mono ?_
        rintro e w1 ⟨rfl, b1⟩
        have N1 := Lib.hid b1
        clear b1
        go_wp2_with fail
        refine (CL.out _ N1.out).mono ?_
        rintro e w2 ⟨rfl, b2⟩
        have N2 := Lib.hid (bt N1.out b2)
        clear b2
        go_wp2_with fail
        refine (CM.out _ N2.out).mono ?_
        rintro e w3 ⟨rfl, b3⟩
        have B3 := Lib.hid (bt (bt HB.out N2.out) b3)
        clear b3
        go_wp2_with fail
        go_ret2
        exact RIp.no B3.out
      | true =>
        have HC : Hid (Ex.byC r c s zs xs ms = 0) := Lib.hid (by unfold Ex.byC; rw [Ex.vl_t hq, hL, Ex.buO_ok hq, hM]; rfl)
        have E := Lib.hid (Ex.by_yes HC.out)
        have OK := Lib.hid (Ex.by_0 HC.out).2.2.2
        rw [E.out, HC.out]
        rw [hM] at CM
        have hm64 : ms.length ≤ 64 := by rw [OK.out.len]; exact OK.out.n64
        have hx12 := OK.out.x12
        clear hq E HC hL hM
        go_enter Try.func16, Try.ntmps16
        go_wp2_with fail
        refine C.out.mono ?_
        rintro e w1 ⟨rfl, b1⟩
        have N1 := Lib.hid b1
        clear b1
        go_wp2_with fail
        refine (CL.out _ N1.out).mono ?_
        rintro e w2 ⟨rfl, b2⟩
        have N2 := Lib.hid (bt N1.out b2)
        clear b2
        go_wp2_with fail
        refine (CM.out _ N2.out).mono ?_
        rintro e w3 ⟨rfl, b3⟩
        have N3 := Lib.hid (bt HB.out (bt N2.out b3))
        have O1 : Hid (Own w3.heap.size (w3.alloc (.cells #[] 2)) (.slice (some ⟨w3.heap.size, 0, none⟩) 0 0) ((xs.take 0).map (Ex.bu1 ms))) := Lib.hid (World.ownsRow_lit _ _ _ (Nat.le_refl _) (by decide) (by decide))
        have hw1 : Hid (w.heap.size ≤ w3.heap.size) := Lib.hid N3.out.size
        have B1 := Lib.hid ((Below.refl w3.heap.size w3).alloc (Nat.le_refl _) (.cells #[] 2))
        clear b3 C CL CM
        go_wp2_with fail
        go_loopw [8, 9, 10, 11] (fun q i _ _ wr => ∃ k : Nat, k ≤ xs.length ∧ i = .int .i64 (k : Int) ∧ Hid (Own w3.heap.size wr q ((xs.take k).map (Ex.bu1 ms))) ∧ Hid (Below w3.heap.size w3 wr)) (fun _ i _ _ _ => xs.length - (intOf i).toNat)
        case atStart => exact ⟨0, by omega, rfl, O1, B1⟩
        case round =>
          obtain ⟨k, hk, rfl, hO, hb⟩ := hrel
          clear O1 B1
          have hlm : ((xs.take k).map (Ex.bu1 ms)).length ≤ 12 := by rw [List.length_map, List.length_take]; omega
          by_cases hlt : k < xs.length
          · have hltz : (k : Int) < (xs.length : Int) := by omega
            obtain ⟨b', off, cap1, hn, hbl, hc⟩ := (HU.out.below (bt N3.out hb.out)).known hlt
            simp only [Value.slice.injEq] at hn
            obtain ⟨rfl, -, rfl⟩ := hn
            obtain ⟨-, c1, -, csl⟩ := hc k hlt
            obtain ⟨ea, ecap, he⟩ := csl.form
            rw [he] at c1
            have HS := Lib.hid (he ▸ csl : Sl wr (.slice ea xs[k].ce.length ecap) xs[k].ce)
            have HTW := Lib.hid (HT.out.below (bt N3.out hb.out))
            obtain ⟨x64, xin⟩ := OK.out.ce xs[k] (List.getElem_mem hlt)
            have XIN := Lib.hid xin
            have hst : Hid ((xs.take (k + 1)).map (Ex.bu1 ms) = (xs.take k).map (Ex.bu1 ms) ++ [Ex.bu1 ms xs[k]]) := Lib.hid (by rw [List.take_succ_eq_append_getElem hlt, List.map_append]; rfl)
            have hbu : Hid (Ex.bu1 ms xs[k] = (xs[k].ce.map (Ex.msAt ms)).sum) := Lib.hid rfl
            clear hc csl he xin
            generalize Ex.bu1 ms xs[k] = by1 at *
            generalize xs[k].ce = ce at *
            generalize (xs.take k).map (Ex.bu1 ms) = l at *
            go_wp2_with fail
            go_loop [10, 11] (fun sv iv => ∃ (j : Nat) (z : Int), j ≤ ce.length ∧ iv = .int .i64 (j : Int) ∧ sv = .int .i64 z ∧ 0 ≤ z ∧ z ≤ 1000000 * j ∧ Hid (z = ((ce.take j).map (Ex.msAt ms)).sum)) (fun _ iv => ce.length - (intOf iv).toNat)
            case atStart => exact ⟨0, 0, Nat.zero_le _, rfl, rfl, by omega, by omega, Lib.hid rfl⟩
            case round =>
              obtain ⟨j, z, hj, rfl, rfl, z1, z2, hz⟩ := hrel
              by_cases hjl : j < ce.length
              · have hjz : (j : Int) < (ce.length : Int) := by omega
                obtain ⟨eb, eo, ec1, hn2, hebl, hec⟩ := HS.out.atI hjl
                simp only [Value.slice.injEq] at hn2
                obtain ⟨rfl, -, rfl⟩ := hn2
                have e1 := hec j hjl
                obtain ⟨y1, y2⟩ := XIN.out ce[j] (List.getElem_mem hjl)
                obtain ⟨m, hm⟩ : ∃ m : Nat, ce[j] = (m : Int) := ⟨ce[j].toNat, (Int.toNat_of_nonneg y1).symm⟩
                rw [hm] at e1 y1 y2
                have hml2 : m < ms.length := by omega
                obtain ⟨tb, to, tc1, hn3, htbl, htc⟩ := HTW.out.atI hml2
                simp only [Value.slice.injEq] at hn3
                obtain ⟨rfl, -, rfl⟩ := hn3
                have t1 := htc m hml2
                obtain ⟨q1, q2⟩ := OK.out.mv m hml2
                have hsn : Hid (((ce.take (j + 1)).map (Ex.msAt ms)).sum = ((ce.take j).map (Ex.msAt ms)).sum + ms[m]) := Lib.hid (by rw [sumF_snoc _ hjl, hm, Ex.msAt_of hml2])
                clear hec htc hm
                generalize ms[m] = y at *
                go_wp2_with fail
                exact ⟨⟨j + 1, z + y, by omega, by go_num, rfl, by omega, by omega, Lib.hid (by rw [hsn.out, hz.out])⟩, by simp only [intOf]; omega⟩
              · have hjz : ¬ (j : Int) < (ce.length : Int) := by omega
                have hjn : Hid (z = by1) := Lib.hid (by rw [hz.out, hbu.out, List.take_of_length_le (by omega)])
                go_wp2_with (at_builtin; refine wpList_append_own _ rfl _ _ 22 rfl w3.heap.size 2 i0 (.int .i64 0) 1 8 Try.underlying22 hi0 hz0 hz1 hz2 rfl (by decide) _ _ _ rfl (own_belowAll hO.out ((Below.refl _ _).alloc (Nat.le_refl _) _)) ⟨wr.heap.size, 0, none⟩ 1 1 [.int .i64 z] rfl rfl (row_new _ [_] _) (iv_cell [z]) ?c3 ?c4 ?c5 ?_)
                case c3 => unfold maxLen; omega
                case c4 => omega
                case c5 => have := hb.out.size; first | omega | (simp; omega)
                intro v' w7 hown' hgrow _
                have O7 : Hid (Own w3.heap.size w7 v' ((xs.take (k + 1)).map (Ex.bu1 ms))) := Lib.hid (by rw [hst.out, ← hjn.out]; unfold Own; rw [iv_append, List.length_append]; exact hown')
                have B7 : Hid (Below w3.heap.size w3 w7) := Lib.hid ((hb.out.alloc hb.out.size _).grown hgrow (by have := hb.out.size; simp; omega) (fun j hj => (World.ownsRow.lt hO.out j hj).1))
                clear hown' hgrow hO hb
                go_wp2
                exact ⟨⟨k + 1, by omega, by go_num, O7, B7⟩, by simp only [intOf]; omega⟩
          · have hltz : ¬ (k : Int) < (xs.length : Int) := by omega
            have hlast : Hid ((xs.take k).map (Ex.bu1 ms) = xs.map (Ex.bu1 ms)) := Lib.hid (by rw [List.take_of_length_le (by omega)])
            go_wp2_with fail
            go_ret2
            exact RIp.yes hlast.out.symm rfl (Own.le hO.out hw1.out) (bt N3.out hb.out)
set_option maxHeartbeats 1600000 in
theorem areMassesG_any (w : World) (v : Value) (ms : List Int) (n : Nat) (hv : Sl w v ms) (hl : ms.length ≤ 1048576) (hn : n ≤ 1048576) :
    Calls Try.prog 48 #[v, .int .i64 (n : Int)] w fun e w' => e = .returned (.bool (decide (ms.length = n) && Ms.okI ms 1000000)) ∧ Below w.heap.size w w' := by
  have C := Lib.hid (isShortM_any w v ms 1000000 hv hl)
  obtain ⟨a, cap, rfl⟩ := hv.form
  clear hv
  by_cases h : ms.length = n
  · have hb : ((ms.length : Int) == (n : Int)) = true := beq_iff_eq.2 (by omega)
    have E : Hid ((decide (ms.length = n) && Ms.okI ms 1000000) = Ms.okI ms 1000000) := Lib.hid (by rw [decide_eq_true h, Bool.true_and])
    clear h
    go_enter Try.func48, Try.ntmps48
    go_wp2_with fail
    refine C.out.mono ?_
    rintro e w1 ⟨rfl, b1⟩
    have B1 := Lib.hid b1
    clear b1
    go_wp2_with fail
    go_ret
    exact ⟨ret_bool E.out.symm, B1.out⟩
  · have hb : ((ms.length : Int) == (n : Int)) = false := beq_eq_false_iff_ne.2 (by omega)
    have E : Hid ((decide (ms.length = n) && Ms.okI ms 1000000) = false) := Lib.hid (by rw [decide_eq_false h, Bool.false_and])
    clear h C
    go_enter Try.func48, Try.ntmps48
    go_wp2_with fail
    go_ret
    exact ⟨ret_bool E.out.symm, Below.refl _ _⟩
set_option maxHeartbeats 800000 in
theorem buryLit_any (q : Nat) (ta : Option Addr) (tcap : Nat) (ms : List Int) (m : Nat) (W : World) (hc : W.cell? ⟨q, 0, none⟩ = some (.slice ta ms.length tcap)) (ht : Sl W (.slice ta ms.length tcap) ms) (hm : m < ms.length) :
    Calls Try.prog 50 (#[.int .i64 (m : Int)] ++ #[.pointer (some ⟨q, 0, none⟩)]) W fun e w' => e = .returned (.int .i64 ms[m]) ∧ W = w' := by
  obtain ⟨tb, to, tc1, hn3, htbl, htc⟩ := ht.atI hm
  simp only [Value.slice.injEq] at hn3
  obtain ⟨rfl, -, rfl⟩ := hn3
  have t1 := htc m hm
  have hmz : (m : Int) < (ms.length : Int) := by omega
  clear htc
  generalize ms[m] = y at *
  clear hm
  go_enter Try.func50, Try.ntmps50
  go_wp2_with fail
  go_ret
  exact ⟨rfl, rfl⟩
set_option maxHeartbeats 12800000 in
theorem implBuriedBy_any (w : World) (r c s : Int) (v : Value) (zs : List Int) (u : Value) (xs : List Ast) (t : Value) (ms : List Int) (hv : Sl w v zs) (hl : zs.length ≤ 1048576) (hu : AsSl w u xs) (hul : xs.length ≤ 1048576) (hi : As.Sh xs) (ht : Sl w t ms) (hml : ms.length ≤ 1048576) :
    Calls Try.prog 18 #[.agg #[.int .i64 r, .int .i64 c, .int .i64 s, v], u, t] w (RIp w (Ex.byL r c s zs xs ms) (Ex.byC r c s zs xs ms)) := by
  obtain ⟨i0, hi0, hz0, hz1, hz2⟩ := info_parts info_i64
  obtain ⟨ua, ucap, rfl⟩ := hu.form
  obtain ⟨ta, tcap, rfl⟩ := ht.form
  obtain ⟨va, vcap, rfl⟩ := hv.form
  obtain ⟨W2, hW2⟩ : ∃ W2, (boxG w r c s (.slice va zs.length vcap) 29).alloc (.cells #[.slice ta ms.length tcap] 22) = W2 := ⟨_, rfl⟩
  have HB : Hid (Below w.heap.size w W2) := Lib.hid (by rw [← hW2]; exact bt (boxG_below ..) ((Below.refl _ _).alloc (Nat.le_refl _) _))
  have K1 : Hid (GC W2 w.heap.size r c s (.slice va zs.length vcap)) := Lib.hid (by rw [← hW2]; exact (boxG_cells w r c s _ _).all ((Below.refl _ _).alloc (Nat.le_refl _) _))
  have R1 : Hid (Whole W2 (w.heap.size + 1) 22 #[.slice ta ms.length tcap]) := Lib.hid (by
    rw [← hW2]
    have := Whole.new (boxG w r c s (.slice va zs.length vcap) 29) 22 #[.slice ta ms.length tcap]
    rw [boxG_size] at this
    exact this)
  have HU := Lib.hid (hu.below HB.out)
  have HT := Lib.hid (ht.below HB.out)
  have CV := Lib.hid (fun W (h : Below W2.heap.size W2 W) => implValidAssets_any W r c s (.slice va zs.length vcap) zs (.slice ua xs.length ucap) xs (hv.below (bt HB.out h)) hl (HU.out.below h) hul hi)
  have CM := Lib.hid (fun W (h : Below W2.heap.size W2 W) => areMassesG_any W (.slice ta ms.length tcap) ms zs.length (HT.out.below h) hml hl)
  have CO := Lib.hid (fun a b o W => orderedCode_any a b o W)
  have KK := Lib.hid (fun W (h : Below W2.heap.size W2 W) => (show W.cell? ⟨w.heap.size, 0, none⟩ = some (.int .i64 r) ∧ W.cell? ⟨w.heap.size, 1, none⟩ = some (.int .i64 c) ∧ W.cell? ⟨w.heap.size, 2, none⟩ = some (.int .i64 s) ∧ W.cell? ⟨w.heap.size, 3, none⟩ = some (.slice va zs.length vcap) ∧ W.cell? ⟨w.heap.size + 1, 0, none⟩ = some (.slice ta ms.length tcap) from ⟨(K1.out.all h).c0, (K1.out.all h).c1, (K1.out.all h).c2, (K1.out.all h).c3, (R1.out.all h).at_ 0⟩))
  have BD : Hid (Below W2.heap.size W2 W2.drew) := Lib.hid (below_drewW W2 1)
  obtain ⟨x0, x1, x2, x3, x4⟩ := KK.out W2 (Below.refl _ _)
  have hwl := K1.out.lt
  have hwl2 := R1.out.lt
  clear hu ht hv
  unfold boxG at hW2
  have hbo : Hid (Ex.buO zs ms = (decide (ms.length = zs.length) && Ms.okI ms 1000000)) := Lib.hid rfl
  rw [← hbo.out] at CM
  clear hbo
  cases hq : Ex.vl r c s zs xs with
  | false =>
    have HC : Hid (Ex.byC r c s zs xs ms = 1) := Lib.hid (by unfold Ex.byC; rw [hq]; rfl)
    have E := Lib.hid (Ex.by_no (r := r) (c := c) (s := s) (zs := zs) (xs := xs) (ms := ms) (by rw [HC.out]; decide))
    rw [E.out, HC.out]
    rw [hq] at CV
    clear hq E HC
    generalize Ex.buO zs ms = yb at *
    have CO := Lib.hid (fun W => CO.out false true yb W)
    rw [show odC false true yb = 1 from rfl] at CO
    skip
    go_enter Try.func18, Try.ntmps18
    go_wp2_with fail
    try rw [hW2]
    go_region_held3 (fun w' => w'.cell? ⟨w.heap.size, 0, none⟩ = some (.int .i64 r) ∧ w'.cell? ⟨w.heap.size, 1, none⟩ = some (.int .i64 c) ∧ w'.cell? ⟨w.heap.size, 2, none⟩ = some (.int .i64 s) ∧ w'.cell? ⟨w.heap.size, 3, none⟩ = some (.slice va zs.length vcap) ∧ w'.cell? ⟨w.heap.size + 1, 0, none⟩ = some (.slice ta ms.length tcap)) (go_keep)
      (first
        | (go_at_call 13; with_reducible refine Calls.mono (CV.out wA BA.out) ?_; rintro e wB ⟨rfl, bB⟩; have BB := Lib.hid (bt BA.out bB); clear bB; obtain ⟨y0, y1, y2, y3, y4⟩ := KK.out wB BB.out)
        | (go_at_call 48; with_reducible refine Calls.mono (CM.out wA BA.out) ?_; rintro e wB ⟨rfl, bB⟩; have BB := Lib.hid (bt BA.out bB); clear bB; obtain ⟨y0, y1, y2, y3, y4⟩ := KK.out wB BB.out)
        | (go_at_call 13; with_reducible refine Calls.mono (CV.out W2.drew BD.out) ?_; rintro e wA ⟨rfl, bA⟩; have BA := Lib.hid (bt BD.out bA); clear bA; obtain ⟨y0, y1, y2, y3, y4⟩ := KK.out wA BA.out)
        | (go_at_call 48; with_reducible refine Calls.mono (CM.out W2.drew BD.out) ?_; rintro e wA ⟨rfl, bA⟩; have BA := Lib.hid (bt BD.out bA); clear bA; obtain ⟨y0, y1, y2, y3, y4⟩ := KK.out wA BA.out)
        | (go_at_call 47; refine (CO.out _).mono ?_; rintro e wC ⟨rfl, rfl⟩))
    all_goals (
      have B3 := Lib.hid (bt HB.out BB.out)
      go_wp2_with fail
      go_ret2
      exact RIp.no B3.out)
  | true =>
    rw [hq] at CV
    cases hM : Ex.buO zs ms with
    | false =>
      have HC : Hid (Ex.byC r c s zs xs ms = 7) := Lib.hid (by unfold Ex.byC; rw [hq, hM]; rfl)
      have E := Lib.hid (Ex.by_no (r := r) (c := c) (s := s) (zs := zs) (xs := xs) (ms := ms) (by rw [HC.out]; decide))
      rw [E.out, HC.out]
      rw [hM] at CM
      clear hq E HC hM
      have CO := Lib.hid (fun W => CO.out true true false W)
      rw [show odC true true false = 7 from rfl] at CO
      go_enter Try.func18, Try.ntmps18
      go_wp2_with fail
      try rw [hW2]
      go_region_held3 (fun w' => w'.cell? ⟨w.heap.size, 0, none⟩ = some (.int .i64 r) ∧ w'.cell? ⟨w.heap.size, 1, none⟩ = some (.int .i64 c) ∧ w'.cell? ⟨w.heap.size, 2, none⟩ = some (.int .i64 s) ∧ w'.cell? ⟨w.heap.size, 3, none⟩ = some (.slice va zs.length vcap) ∧ w'.cell? ⟨w.heap.size + 1, 0, none⟩ = some (.slice ta ms.length tcap)) (go_keep)
        (first
          | (go_at_call 13; with_reducible refine Calls.mono (CV.out wA BA.out) ?_; rintro e wB ⟨rfl, bB⟩; have BB := Lib.hid (bt BA.out bB); clear bB; obtain ⟨y0, y1, y2, y3, y4⟩ := KK.out wB BB.out)
          | (go_at_call 48; with_reducible refine Calls.mono (CM.out wA BA.out) ?_; rintro e wB ⟨rfl, bB⟩; have BB := Lib.hid (bt BA.out bB); clear bB; obtain ⟨y0, y1, y2, y3, y4⟩ := KK.out wB BB.out)
          | (go_at_call 13; with_reducible refine Calls.mono (CV.out W2.drew BD.out) ?_; rintro e wA ⟨rfl, bA⟩; have BA := Lib.hid (bt BD.out bA); clear bA; obtain ⟨y0, y1, y2, y3, y4⟩ := KK.out wA BA.out)
          | (go_at_call 48; with_reducible refine Calls.mono (CM.out W2.drew BD.out) ?_; rintro e wA ⟨rfl, bA⟩; have BA := Lib.hid (bt BD.out bA); clear bA; obtain ⟨y0, y1, y2, y3, y4⟩ := KK.out wA BA.out)
          | (go_at_call 47; refine (CO.out _).mono ?_; rintro e wC ⟨rfl, rfl⟩))
      all_goals (
        have B3 := Lib.hid (bt HB.out BB.out)
        go_wp2_with fail
        go_ret2
        exact RIp.no B3.out)
    | true =>
      have HC : Hid (Ex.byC r c s zs xs ms = 0) := Lib.hid (by unfold Ex.byC; rw [hq, hM]; rfl)
      have E := Lib.hid (Ex.by_yes HC.out)
      have OK := Lib.hid (Ex.by_0 HC.out).2.2.2
      rw [E.out, HC.out]
      rw [hM] at CM
      have hm64 : ms.length ≤ 64 := by rw [OK.out.len]; exact OK.out.n64
      have hx12 := OK.out.x12
      clear hq E HC hM
      have CO := Lib.hid (fun W => CO.out true true true W)
      rw [show odC true true true = 0 from rfl] at CO
      go_enter Try.func18, Try.ntmps18
      go_wp2_with fail
      try rw [hW2]
      go_region_held3 (fun w' => w'.cell? ⟨w.heap.size, 0, none⟩ = some (.int .i64 r) ∧ w'.cell? ⟨w.heap.size, 1, none⟩ = some (.int .i64 c) ∧ w'.cell? ⟨w.heap.size, 2, none⟩ = some (.int .i64 s) ∧ w'.cell? ⟨w.heap.size, 3, none⟩ = some (.slice va zs.length vcap) ∧ w'.cell? ⟨w.heap.size + 1, 0, none⟩ = some (.slice ta ms.length tcap)) (go_keep)
        (first
          | (go_at_call 13; with_reducible refine Calls.mono (CV.out wA BA.out) ?_; rintro e wB ⟨rfl, bB⟩; have BB := Lib.hid (bt BA.out bB); clear bB; obtain ⟨y0, y1, y2, y3, y4⟩ := KK.out wB BB.out)
          | (go_at_call 48; with_reducible refine Calls.mono (CM.out wA BA.out) ?_; rintro e wB ⟨rfl, bB⟩; have BB := Lib.hid (bt BA.out bB); clear bB; obtain ⟨y0, y1, y2, y3, y4⟩ := KK.out wB BB.out)
          | (go_at_call 13; with_reducible refine Calls.mono (CV.out W2.drew BD.out) ?_; rintro e wA ⟨rfl, bA⟩; have BA := Lib.hid (bt BD.out bA); clear bA; obtain ⟨y0, y1, y2, y3, y4⟩ := KK.out wA BA.out)
          | (go_at_call 48; with_reducible refine Calls.mono (CM.out W2.drew BD.out) ?_; rintro e wA ⟨rfl, bA⟩; have BA := Lib.hid (bt BD.out bA); clear bA; obtain ⟨y0, y1, y2, y3, y4⟩ := KK.out wA BA.out)
          | (go_at_call 47; refine (CO.out _).mono ?_; rintro e wC ⟨rfl, rfl⟩))
      all_goals (
        have B3 := Lib.hid (bt HB.out BB.out)
        clear CV CM CO
        go_wp2_with (at_make; refine wpList_make_own _ rfl _ _ 22 rfl wB.heap.size 2 i0 (.int .i64 0) 1 Try.underlying22 hi0 hz0 hz1 .i64 .i64 _ xs.length rfl rfl rfl ?c1 ?c2 ?c3 ?_)
        case c1 => rw [hz2]; omega
        case c2 => unfold maxLen; omega
        case c3 => exact Nat.le_refl _
        intro w3 hown hg
        have O1 : Hid (Own wB.heap.size w3 _ ((xs.take 0).map (Ex.bu1 ms))) := Lib.hid hown
        have g3 := Below.grown (Below.refl wB.heap.size wB) hg (Nat.le_refl _) (fun k hk => by cases hk)
        have N1 := Lib.hid g3
        clear hown hg g3 y0 y1 y2 y3 y4
        go_wp2
        go_loopw [9, 29] (fun q i wr => ∃ (k : Nat), k ≤ xs.length ∧ i = .int .i64 k ∧ Hid (Own wB.heap.size wr q ((xs.take k).map (Ex.bu1 ms))) ∧ Hid (Below wB.heap.size wB wr)) (fun _ i _ => xs.length - (intOf i).toNat)
        case atStart => exact ⟨0, Nat.zero_le _, rfl, O1, N1⟩
        case round =>
          obtain ⟨k, hk, rfl, hO, hbB⟩ := hrel
          have hb := Lib.hid (bt BB.out hbB.out)
          clear O1 N1
          have hlm : ((xs.take k).map (Ex.bu1 ms)).length ≤ 12 := by rw [List.length_map, List.length_take]; omega
          by_cases hlt : k < xs.length
          · have hltz : (k : Int) < (xs.length : Int) := by omega
            obtain ⟨b', off, cap1, hn, hbl, hc⟩ := (HU.out.below hb.out).known hlt
            simp only [Value.slice.injEq] at hn
            obtain ⟨rfl, -, rfl⟩ := hn
            obtain ⟨c0, c1, c2, csl⟩ := hc k hlt
            obtain ⟨ea, ecap, he⟩ := csl.form
            rw [he] at c1
            obtain ⟨x64, xin⟩ := OK.out.ce xs[k] (List.getElem_mem hlt)
            have hst : Hid ((xs.take (k + 1)).map (Ex.bu1 ms) = (xs.take k).map (Ex.bu1 ms) ++ [Ex.bu1 ms xs[k]]) := Lib.hid (by rw [List.take_succ_eq_append_getElem hlt, List.map_append]; rfl)
            have CS := Lib.hid (fun W (h : Below wr.heap.size wr W) => sumF_any 50 #[.pointer (some ⟨w.heap.size + 1, 0, none⟩)] (enters_of Try.func50 (by kernel_rfl) rfl) (Ex.msAt ms) W (.slice ea xs[k].ce.length ecap) xs[k].ce x64 ((he ▸ csl : Sl wr (.slice ea xs[k].ce.length ecap) xs[k].ce).below h)
              (fun j hj => by
                obtain ⟨y1, y2⟩ := xin _ (List.getElem_mem hj)
                obtain ⟨m, hm⟩ : ∃ m : Nat, xs[k].ce[j] = (m : Int) := ⟨(xs[k].ce[j]).toNat, (Int.toNat_of_nonneg y1).symm⟩
                rw [hm] at y2 ⊢
                have hml2 : m < ms.length := by omega
                rw [Ex.msAt_of hml2]
                have := OK.out.mv m hml2
                omega)
              (fun j hj => by
                obtain ⟨y1, y2⟩ := xin _ (List.getElem_mem hj)
                obtain ⟨m, hm⟩ : ∃ m : Nat, xs[k].ce[j] = (m : Int) := ⟨(xs[k].ce[j]).toNat, (Int.toNat_of_nonneg y1).symm⟩
                rw [hm] at y2 ⊢
                have hml2 : m < ms.length := by omega
                rw [Ex.msAt_of hml2]
                exact buryLit_any (w.heap.size + 1) ta tcap ms m W ((R1.out.all (bt hb.out h)).at_ 0) (HT.out.below (bt hb.out h)) hml2))
            rw [show (xs[k].ce.map (Ex.msAt ms)).sum = Ex.bu1 ms xs[k] from rfl] at CS
            clear hc csl he xin
            generalize Ex.bu1 ms xs[k] = by1 at *
            generalize (xs.take k).map (Ex.bu1 ms) = l at *
            generalize xs[k].ce.length = cn at *
            go_wp2_with fail
            refine (CS.out _ ((Below.refl _ _).alloc (Nat.le_refl _) _)).mono ?_
            rintro e w4 ⟨rfl, hw4⟩
            have O4 : Hid (Own wB.heap.size w4 _ l) := Lib.hid (by rw [← hw4]; exact own_belowAll hO.out ((Below.refl _ _).alloc (Nat.le_refl _) _))
            have B4 : Hid (Below wB.heap.size wB w4) := Lib.hid (by rw [← hw4]; exact hbB.out.alloc hbB.out.size _)
            clear CS c0 c1 c2 hw4
            go_wp2_with (at_builtin; refine wpList_append_own _ rfl _ _ 22 rfl wB.heap.size 2 i0 (.int .i64 0) 1 8 Try.underlying22 hi0 hz0 hz1 hz2 rfl (by decide) _ _ _ rfl (own_belowAll O4.out ((Below.refl _ _).alloc (Nat.le_refl _) _)) ⟨w4.heap.size, 0, none⟩ 1 1 [.int .i64 by1] rfl rfl (row_new _ [_] _) (iv_cell [by1]) ?c3 ?c4 ?c5 ?_)
            case c3 => unfold maxLen; omega
            case c4 => omega
            case c5 => have := B4.out.size; first | omega | (simp; omega)
            intro v' w5 hown' hgrow _
            have hnx : Hid (Own wB.heap.size w5 v' ((xs.take (k + 1)).map (Ex.bu1 ms))) := Lib.hid (by rw [hst.out]; unfold Own; rw [iv_append, List.length_append]; exact hown')
            have hnb : Hid (Below wB.heap.size wB w5) := Lib.hid ((B4.out.alloc B4.out.size _).grown hgrow (by have := B4.out.size; simp; omega) (fun j hj => (O4.out.lt j hj).1))
            clear hown' hgrow hO hb hbB
            go_wp2
            exact ⟨⟨k + 1, by omega, by go_num, hnx, hnb⟩, by simp only [intOf]; omega⟩
          · have hltz : ¬ (k : Int) < (xs.length : Int) := by omega
            have hlast : Hid ((xs.take k).map (Ex.bu1 ms) = xs.map (Ex.bu1 ms)) := Lib.hid (by rw [List.take_of_length_le (by omega)])
            go_wp2_with fail
            go_ret2
            exact RIp.yes hlast.out.symm rfl (Own.le hO.out B3.out.size) (bt HB.out hb.out))
end Go.Proofs.Ytaldmdammipfjaa

/-
  The stands that protect enough, by the model and by the program. The condition: no name is longer than 2^20.
-/
import Derived.Test.YtecobplmkdlagaaFoB
import Derived.Test.YtecobplmkdlagaaFoP
import Derived.Test.YtecobplmkdlagaaIntsM
import Derived.Laws.AppendOwn
import Derived.Laws.OwnMore
namespace Go.Proofs.Ytecobplmkdlagaa
open Go.RowKit Go.Shelf
set_option linter.unusedVariables false
set_option maxRecDepth 100000

/-- how a call ends that answers numbers and a code -/
def RIs (w : World) (l : List Int) (c : Int) (e : Ending) (w' : World) : Prop := ∃ u, e = .returned (.tuple #[u, .int .i64 c]) ∧ Own w.heap.size w' u l ∧ Below w.heap.size w w'
theorem RIs.no {w w' : World} {c : Int} (hb : Below w.heap.size w w') : RIs w [] c (.returned (.tuple #[.slice none 0 0, .int .i64 c])) w' := ⟨_, rfl, World.ownsRow_nil _ _ _ _, hb⟩
theorem RIs.yes {w w' : World} {u : Value} {l l' : List Int} {c c' : Int} (hl : l' = l) (hc : c = c') (ho : Own w.heap.size w' u l) (hb : Below w.heap.size w w') : RIs w l' c' (.returned (.tuple #[u, .int .i64 c])) w' := by
  subst hl hc; exact ⟨_, rfl, ho, hb⟩
/-- how a call ends that answers numbers -/
def RJs (w : World) (l : List Int) (e : Ending) (w' : World) : Prop := ∃ u, e = .returned u ∧ Own w.heap.size w' u l ∧ Below w.heap.size w w'
theorem l10Prot_b (x : Std) (b o : Nat) (s : Int) (w : World) (h : SnCells w b o x) (hf : Fo.Fits x) (h1 : 0 ≤ s) (h2 : s ≤ 2000) :
    Calls Try.prog 52 #[.pointer (some ⟨b, o, none⟩), .int .i64 s] w fun e w' => e = .returned (.int .i64 (Fo.pr x s)) ∧ Below w.heap.size w w' :=
  (l10Protection_any x b o s w h hf h1 h2).mono fun _ _ ⟨h, q, hq⟩ => ⟨h, by rw [hq]; exact below_drewW _ _⟩
set_option maxHeartbeats 3200000 in
theorem specProtectedStands_any (w : World) (v : Value) (xs : List Std) (s l : Int) (hv : SnSl w v xs) (hl : xs.length ≤ 1048576) (hi : Ids xs) :
    Calls Try.prog 22 #[v, .int .i64 s, .int .i64 l] w (RIs w (Fo.psL xs s l) (Fo.psC xs s l)) := by
  obtain ⟨i0, hi0, hz0, hz1, hz2⟩ := info_parts info_i64
  have C := Lib.hid (l10Ok_any w v xs hv hl hi)
  have C1 := fun W => Lib.hid (l10Snow_any s W)
  have C2 := fun W => Lib.hid (l10Least_any l W)
  obtain ⟨a, cap, rfl⟩ := hv.form
  have HV := Lib.hid hv
  clear hv hi
  unfold Fo.psL Fo.psC
  cases hq : Fo.okS xs with
  | false =>
    rw [hq] at C
    rw [Cd.ls_f, Cd.cd_f]
    clear hq
    go_enter Try.func22, Try.ntmps22
    go_wp2_with fail
    refine C.out.mono ?_
    rintro e w1 ⟨rfl, b1⟩
    have B1 := Lib.hid b1
    clear b1
    go_wp2_with fail
    go_ret2
    exact RIs.no B1.out
  | true =>
    rw [hq] at C
    have HF := Lib.hid (Fo.okS_all hq).1
    clear hq
    cases hs : Fo.lim s l with
    | false =>
      rw [Cd.ls_tf, Cd.cd_tf]
      unfold Fo.lim at hs
      cases hp : Ar.inB 0 s 2000 with
      | false =>
        rw [hp] at C1
        clear hs hp
        go_enter Try.func22, Try.ntmps22
        go_wp2_with fail
        refine C.out.mono ?_
        rintro e w1 ⟨rfl, b1⟩
        have B1 := Lib.hid b1
        clear b1
        go_wp2_with fail
        refine (C1 _).out.mono ?_
        rintro e w2 ⟨rfl, rfl⟩
        go_wp2_with fail
        go_ret2
        exact RIs.no B1.out
      | true =>
        rw [hp, Bool.true_and] at hs
        rw [hp] at C1
        rw [hs] at C2
        clear hs hp
        go_enter Try.func22, Try.ntmps22
        go_wp2_with fail
        refine C.out.mono ?_
        rintro e w1 ⟨rfl, b1⟩
        have B1 := Lib.hid b1
        clear b1
        go_wp2_with fail
        refine (C1 _).out.mono ?_
        rintro e w2 ⟨rfl, rfl⟩
        go_wp2_with fail
        refine (C2 _).out.mono ?_
        rintro e w2 ⟨rfl, rfl⟩
        go_wp2_with fail
        go_ret2
        exact RIs.no B1.out
    | true =>
      obtain ⟨⟨h1, h2⟩, h3, h4⟩ := Fo.lim_of hs
      rw [Cd.ls_t, Cd.cd_t]
      unfold Fo.lim at hs
      rw [Bool.and_eq_true] at hs
      rw [hs.1] at C1
      rw [hs.2] at C2
      clear hs
      go_enter Try.func22, Try.ntmps22
      go_wp2_with fail
      refine C.out.mono ?_
      rintro e w1 ⟨rfl, b1⟩
      have B1 := Lib.hid b1
      clear b1
      go_wp2_with fail
      refine (C1 _).out.mono ?_
      rintro e w2 ⟨rfl, rfl⟩
      go_wp2_with fail
      refine (C2 _).out.mono ?_
      rintro e w2 ⟨rfl, rfl⟩
      have BA := Lib.hid (B1.out.alloc B1.out.size (.cells #[] 2))
      have O1 : Hid (Own w.heap.size (w1.alloc (.cells #[] 2)) (.slice (some ⟨w1.heap.size, 0, none⟩) 0 0) (Fo.ixs (Fo.met s l) 0 (xs.take 0))) := Lib.hid (World.ownsRow_lit _ _ _ B1.out.size (by decide) (by decide))
      go_wp2_with fail
      go_loopw [8, 9] (fun u i wr => ∃ (k : Nat), k ≤ xs.length ∧ i = .int .i64 k ∧ Hid (Own w.heap.size wr u (Fo.ixs (Fo.met s l) 0 (xs.take k))) ∧ Hid (Below w.heap.size w wr)) (fun _ i _ => xs.length - (intOf i).toNat)
      case atStart => exact ⟨0, Nat.zero_le _, rfl, O1, BA⟩
      case round =>
        obtain ⟨k, hk, rfl, ho, hbw⟩ := hrel
        by_cases hlt : k < xs.length
        · obtain ⟨b, off, cap1, hn, hbl, hcc⟩ := (HV.out.below hbw.out).at_ hlt
          simp only [Value.slice.injEq] at hn
          obtain ⟨rfl, -, rfl⟩ := hn
          have P := Lib.hid (l10Prot_b xs[k] b (off + k * 5) s wr (hcc k hlt) (HF.out _ (List.getElem_mem hlt)) h1 h2)
          have hlen := Fo.ixs_len (Fo.met s l) 0 (xs.take k)
          have hlt' : (xs.take k).length ≤ k := List.length_take_le _ _
          clear hcc
          by_cases hq : l ≤ Fo.pr xs[k] s
          · have hw : Hid (Fo.ixs (Fo.met s l) 0 (xs.take k) ++ [(k : Int)] = Fo.ixs (Fo.met s l) 0 (xs.take (k + 1))) := Lib.hid (Fo.ixs_yes hlt (decide_eq_true hq)).symm
            generalize Fo.pr xs[k] s = p at *
            go_wp2_with fail
            refine P.out.mono ?_
            rintro e w2 ⟨rfl, b2⟩
            have O2 := Lib.hid (own_belowAll ho.out b2)
            have B2 := Lib.hid (bt hbw.out b2)
            clear b2 ho hbw P
            go_wp2_with (at_builtin; refine wpList_append_own _ rfl _ _ 37 rfl w.heap.size 2 i0 (.int .i64 0) 1 8 Try.underlying37 hi0 hz0 hz1 hz2 rfl (by decide) _ _ _ rfl (own_belowAll O2.out ((Below.refl _ _).alloc (Nat.le_refl _) _)) ⟨w2.heap.size, 0, none⟩ 1 1 [.int .i64 (k : Int)] rfl rfl (row_new _ [_] _) (iv_cell [(k : Int)]) ?c3 ?c4 ?c5 ?_)
            case c3 => unfold maxLen; omega
            case c4 => omega
            case c5 => have := B2.out.size; first | omega | (simp; omega)
            intro v' w3 hown' hgrow _
            have hnx : Hid (Own w.heap.size w3 v' (Fo.ixs (Fo.met s l) 0 (xs.take (k + 1)))) := Lib.hid (by rw [← hw.out]; unfold Own; rw [iv_append, List.length_append]; exact hown')
            have hnb : Hid (Below w.heap.size w w3) := Lib.hid ((B2.out.alloc B2.out.size _).grown hgrow (by have := B2.out.size; simp; omega) (fun j hj => (O2.out.lt j hj).1))
            clear hown' hgrow O2 B2
            go_wp2
            exact ⟨⟨k + 1, by omega, by go_num, hnx, hnb⟩, by simp only [intOf]; omega⟩
          · have hw : Hid (Fo.ixs (Fo.met s l) 0 (xs.take (k + 1)) = Fo.ixs (Fo.met s l) 0 (xs.take k)) := Lib.hid (Fo.ixs_no hlt (decide_eq_false hq))
            generalize Fo.pr xs[k] s = p at *
            go_wp2_with fail
            refine P.out.mono ?_
            rintro e w2 ⟨rfl, b2⟩
            have O2 := Lib.hid (own_belowAll ho.out b2)
            have B2 := Lib.hid (bt hbw.out b2)
            clear b2 ho hbw P
            go_wp2_with fail
            exact ⟨⟨k + 1, by omega, by go_num, Lib.hid (by rw [hw.out]; exact O2.out), B2⟩, by simp only [intOf]; omega⟩
        · have hkn : k = xs.length := by omega
          have hh : xs.take k = xs := by rw [hkn, List.take_length]
          rw [hh] at ho
          clear hkn hh
          obtain ⟨ua, ucap, rfl⟩ := (Own.sl ho.out).form
          go_wp2
          go_ret2
          exact RIs.yes rfl rfl ho.out hbw.out
/-! ### the program -/
set_option maxHeartbeats 3200000 in
theorem indicesOfStd_any (g : Nat) (y : Value) (p : Std → Bool) (w : World) (v : Value) (xs : List Std) (eg : ∀ args w, (callFunc g args).run Try.prog w = .ok (.enter g args) w) (hl : xs.length ≤ 1048576) (hv : SnSl w v xs)
    (hc : ∀ x ∈ xs, ∀ W, Below w.heap.size w W → Calls Try.prog g #[y, .agg #[.string ⟨x.id.toArray⟩, .int .i64 x.tr, .int .i64 x.he, .int .i64 x.co, .int .i64 x.ga]] W fun e w' => e = .returned (.bool (p x)) ∧ Below W.heap.size W w') :
    Calls Try.prog 58 #[v, .func (.func g) #[y] #[]] w (RJs w (Fo.ixs p 0 xs)) := by
  obtain ⟨i0, hi, hz0, hz1, hz2⟩ := info_parts info_i64
  obtain ⟨a, cap, rfl⟩ := hv.form
  have HV := Lib.hid hv
  have HC := Lib.hid hc
  clear hv hc
  go_enter Try.func58, Try.ntmps58
  go_wp2_with (at_make; refine wpList_make_own _ rfl _ _ 37 rfl w.heap.size 2 i0 (.int .i64 0) 1 Try.underlying37 hi hz0 hz1 .i64 .i64 _ xs.length rfl rfl rfl ?c1 ?c2 ?c3 ?_)
  case c1 => rw [hz2]; omega
  case c2 => unfold maxLen; omega
  case c3 => exact Nat.le_refl _
  intro w1 hown hg
  have O1 : Hid (Own w.heap.size w1 _ (Fo.ixs p 0 (xs.take 0))) := Lib.hid hown
  have B1 := Lib.hid ((Below.refl w.heap.size w).grown hg (Nat.le_refl _) (fun k hk => by cases hk))
  clear hown hg
  go_wp2
  go_loopw [5, 13] (fun u i wr => ∃ (k : Nat), k ≤ xs.length ∧ i = .int .i64 k ∧ Hid (Own w.heap.size wr u (Fo.ixs p 0 (xs.take k))) ∧ Hid (Below w.heap.size w wr)) (fun _ i _ => xs.length - (intOf i).toNat)
  case atStart => exact ⟨0, Nat.zero_le _, rfl, O1, B1⟩
  case round =>
    obtain ⟨k, hk, rfl, ho, hbw⟩ := hrel
    by_cases hlt : k < xs.length
    · have hltz : (k : Int) < (xs.length : Int) := by omega
      obtain ⟨b, off, cap1, hn, hbl, hcc⟩ := (HV.out.below hbw.out).at_ hlt
      simp only [Value.slice.injEq] at hn
      obtain ⟨rfl, -, rfl⟩ := hn
      obtain ⟨c0, c1, c2, c3, c4⟩ := hcc k hlt
      have hlen := Fo.ixs_len p 0 (xs.take k)
      have hlt' : (xs.take k).length ≤ k := List.length_take_le _ _
      have C := Lib.hid (fun W h => HC.out xs[k] (List.getElem_mem hlt) W h)
      clear hcc
      cases hq : p xs[k] with
      | true =>
        have hw : Hid (Fo.ixs p 0 (xs.take k) ++ [(k : Int)] = Fo.ixs p 0 (xs.take (k + 1))) := Lib.hid (Fo.ixs_yes hlt hq).symm
        rw [hq] at C
        clear hq
        go_wp2_with fail
        go_at_fn g
        refine (C.out _ (by first | exact hbw.out | exact hbw.out.alloc hbw.out.size _)).mono ?_
        rintro e w2 ⟨rfl, b2⟩
        have O2 := Lib.hid (own_belowAll (own_belowAll ho.out (by first | exact Below.refl _ _ | exact (Below.refl _ _).alloc (Nat.le_refl _) _)) b2)
        have B2 := Lib.hid (bt (by first | exact hbw.out | exact hbw.out.alloc hbw.out.size _) b2)
        clear b2 ho hbw c0 c1 c2 c3 c4
        go_wp2_with (at_builtin; refine wpList_append_own _ rfl _ _ 37 rfl w.heap.size 2 i0 (.int .i64 0) 1 8 Try.underlying37 hi hz0 hz1 hz2 rfl (by decide) _ _ _ rfl (own_belowAll O2.out ((Below.refl _ _).alloc (Nat.le_refl _) _)) ⟨w2.heap.size, 0, none⟩ 1 1 [.int .i64 (k : Int)] rfl rfl (row_new _ [_] _) (iv_cell [(k : Int)]) ?c3 ?c4 ?c5 ?_)
        case c3 => unfold maxLen; omega
        case c4 => omega
        case c5 => have := B2.out.size; first | omega | (simp; omega)
        intro v' w3 hown' hgrow _
        have hnx : Hid (Own w.heap.size w3 v' (Fo.ixs p 0 (xs.take (k + 1)))) := Lib.hid (by rw [← hw.out]; unfold Own; rw [iv_append, List.length_append]; exact hown')
        have hnb : Hid (Below w.heap.size w w3) := Lib.hid ((B2.out.alloc B2.out.size _).grown hgrow (by have := B2.out.size; simp; omega) (fun j hj => (O2.out.lt j hj).1))
        clear hown' hgrow O2 B2
        go_wp2
        exact ⟨⟨k + 1, by omega, by go_num, hnx, hnb⟩, by simp only [intOf]; omega⟩
      | false =>
        have hw : Hid (Fo.ixs p 0 (xs.take (k + 1)) = Fo.ixs p 0 (xs.take k)) := Lib.hid (Fo.ixs_no hlt hq)
        rw [hq] at C
        clear hq
        go_wp2_with fail
        go_at_fn g
        refine (C.out _ (by first | exact hbw.out | exact hbw.out.alloc hbw.out.size _)).mono ?_
        rintro e w2 ⟨rfl, b2⟩
        have O2 := Lib.hid (own_belowAll (own_belowAll ho.out (by first | exact Below.refl _ _ | exact (Below.refl _ _).alloc (Nat.le_refl _) _)) b2)
        have B2 := Lib.hid (bt (by first | exact hbw.out | exact hbw.out.alloc hbw.out.size _) b2)
        clear b2 ho hbw c0 c1 c2 c3 c4
        go_wp2_with fail
        exact ⟨⟨k + 1, by omega, by go_num, Lib.hid (by rw [hw.out]; exact O2.out), B2⟩, by simp only [intOf]; omega⟩
    · have hltz : ¬ (k : Int) < (xs.length : Int) := by omega
      have hkn : k = xs.length := by omega
      have hh : xs.take k = xs := by rw [hkn, List.take_length]
      rw [hh] at ho
      clear hkn hh
      go_wp2
      go_ret
      exact ⟨_, rfl, ho.out, hbw.out⟩
/-- the world with a demand in a new block -/
def boxD (w : World) (s l : Int) (t : TypeId) : World := w.alloc (.cells #[.int .i64 s, .int .i64 l] t)
theorem boxD_below (w : World) (s l : Int) (t : TypeId) : Below w.heap.size w (boxD w s l t) := (Below.refl _ _).alloc (Nat.le_refl _) _
theorem boxD_kept {w W : World} {s l : Int} {t : TypeId} (h : Below (boxD w s l t).heap.size (boxD w s l t) W) : W.cell? ⟨w.heap.size, 0, none⟩ = some (.int .i64 s) ∧ W.cell? ⟨w.heap.size, 1, none⟩ = some (.int .i64 l) :=
  ⟨((Whole.new w t #[.int .i64 s, .int .i64 l]).all h).at_ 0, ((Whole.new w t #[.int .i64 s, .int .i64 l]).all h).at_ 1⟩
set_option maxHeartbeats 1600000 in
theorem implProtectedStands_any (w : World) (v : Value) (xs : List Std) (s l : Int) (hv : SnSl w v xs) (hl : xs.length ≤ 1048576) (hi : Ids xs) :
    Calls Try.prog 23 #[v, .int .i64 s, .int .i64 l] w (RIs w (Fo.psL xs s l) (Fo.psC xs s l)) := by
  have D := Lib.hid (fun W => demandStated_any s l W)
  have C := Lib.hid (fun W (hb : Below w.heap.size w W) => standsCode_any W v xs (Fo.lim s l) (hv.below hb) hl hi)
  have B := Lib.hid (boxD_below w s l 69)
  have K := Lib.hid (fun W (h : Below (boxD w s l 69).heap.size (boxD w s l 69) W) => boxD_kept h)
  have CI := Lib.hid (fun (hf : ∀ x ∈ xs, Fo.Fits x) (h1 : 0 ≤ s) (h2 : s ≤ 2000) W (hb : Below w.heap.size w W) => indicesOfStd_any 59 (.agg #[.int .i64 s, .int .i64 l]) (Fo.met s l) W v xs (enters_of Try.func59 (by kernel_rfl) rfl) hl (hv.below hb) (fun x hx W2 _ => isMetBy_any s l x W2 (hf x hx) h1 h2))
  have HF : Hid (Fo.okS xs = true → ∀ x ∈ xs, Fo.Fits x) := Lib.hid (fun h => (Fo.okS_all h).1)
  obtain ⟨a, cap, rfl⟩ := hv.form
  unfold Fo.psL Fo.psC
  unfold boxD at B K
  clear hv hi
  cases hq : Fo.okS xs with
  | false =>
    rw [hq] at C
    rw [Cd.ls_f, Cd.cd_f]
    simp only [Cd.cd_f] at C
    clear hq HF CI
    generalize Fo.lim s l = t at *
    go_enter Try.func23, Try.ntmps23
    go_wp2_with fail
    refine (D.out _).mono ?_
    rintro e w1 ⟨rfl, b1⟩
    have B1 := Lib.hid (bt B.out b1)
    clear b1
    go_wp2_with fail
    refine (C.out _ B1.out).mono ?_
    rintro e w2 ⟨rfl, b2⟩
    have B2 := Lib.hid (bt B1.out b2)
    clear b2
    go_wp2_with fail
    go_ret2
    exact RIs.no B2.out
  | true =>
    rw [hq] at C
    have HF := Lib.hid (HF.out hq)
    clear hq
    cases hs : Fo.lim s l with
    | false =>
      rw [hs] at C D
      rw [Cd.ls_tf, Cd.cd_tf]
      simp only [Cd.cd_tf] at C
      clear hs CI HF
      go_enter Try.func23, Try.ntmps23
      go_wp2_with fail
      refine (D.out _).mono ?_
      rintro e w1 ⟨rfl, b1⟩
      have B1 := Lib.hid (bt B.out b1)
      clear b1
      go_wp2_with fail
      refine (C.out _ B1.out).mono ?_
      rintro e w2 ⟨rfl, b2⟩
      have B2 := Lib.hid (bt B1.out b2)
      clear b2
      go_wp2_with fail
      go_ret2
      exact RIs.no B2.out
    | true =>
      obtain ⟨⟨h1, h2⟩, h3, h4⟩ := Fo.lim_of hs
      rw [hs] at C D
      rw [Cd.ls_t, Cd.cd_t]
      simp only [Cd.cd_t] at C
      have CI := Lib.hid (CI.out HF.out h1 h2)
      clear hs HF h1 h2 h3 h4
      go_enter Try.func23, Try.ntmps23
      go_wp2_with fail
      refine (D.out _).mono ?_
      rintro e w1 ⟨rfl, b1⟩
      have B1 := Lib.hid (bt B.out b1)
      have K1 := Lib.hid b1
      clear b1
      go_wp2_with fail
      refine (C.out _ B1.out).mono ?_
      rintro e w2 ⟨rfl, b2⟩
      have B2 := Lib.hid (bt B1.out b2)
      obtain ⟨k0, k1⟩ := K.out w2 (bt K1.out b2)
      clear b2 K1
      go_wp2_with fail
      refine (CI.out _ B2.out).mono ?_
      rintro e w3 ⟨u, rfl, o3, b3⟩
      have B3 := Lib.hid (bt B2.out b3)
      have O3 := Lib.hid (Go.Joins.ownsRow_le o3 B2.out.size)
      clear o3 b3
      obtain ⟨ua, ucap, rfl⟩ := (Own.sl O3.out).form
      go_wp2_with fail
      go_ret2
      exact RIs.yes rfl rfl O3.out B3.out
end Go.Proofs.Ytecobplmkdlagaa

/-
  The tests of some hours, by the model and by the program. The condition of the program's side: impl.testRules holds what the program's text lays.
-/
import Derived.Test.YteileaeeiejonaaDoorTkV
import Derived.Test.YteileaeeiejonaaDoorIntsM
import Derived.Laws.AppendOwn
import Derived.Laws.OwnMore
namespace Go.Proofs.YteileaeeiejonaaDoor
open Go.RowKit Go.Shelf
set_option linter.unusedVariables false
set_option maxRecDepth 100000

/-- how a call ends that answers numbers and a code -/
def RIt (w : World) (l : List Int) (c : Int) (e : Ending) (w' : World) : Prop := ∃ u, e = .returned (.tuple #[u, .int .i64 c]) ∧ Own w.heap.size w' u l ∧ Below w.heap.size w w'
theorem RIt.no {w w' : World} {c : Int} (hb : Below w.heap.size w w') : RIt w [] c (.returned (.tuple #[.slice none 0 0, .int .i64 c])) w' := ⟨_, rfl, World.ownsRow_nil _ _ _ _, hb⟩
theorem RIt.yes {w w' : World} {u : Value} {l l' : List Int} {c c' : Int} (hl : l' = l) (hc : c = c') (ho : Own w.heap.size w' u l) (hb : Below w.heap.size w w') : RIt w l' c' (.returned (.tuple #[u, .int .i64 c])) w' := by
  subst hl hc; exact ⟨_, rfl, ho, hb⟩
/-- how a call ends that answers numbers -/
def RJt (w : World) (l : List Int) (e : Ending) (w' : World) : Prop := ∃ u, e = .returned u ∧ Own w.heap.size w' u l ∧ Below w.heap.size w w'
namespace Tq
def lims2 (h r : Int) : Bool := Ar.inB 0 h 100000 && Ar.inB 0 r 300
theorem lims2_of {h r : Int} (hl : lims2 h r = true) : (0 ≤ h ∧ h ≤ 100000) ∧ 0 ≤ r ∧ r ≤ 300 := by unfold lims2 at hl; rw [Bool.and_eq_true, inB_iff, inB_iff] at hl; exact hl
/-- what RecentTests answers -/
def rct (h r : Int) (xs : List Tst) : List Int := ixs (isIn (h - r) h) 0 xs
def rctL (xs : List Tst) (h r : Int) : List Int := Cd.ls (okS xs) (lims2 h r) (rct h r xs)
def rctC (xs : List Tst) (h r : Int) : Int := Cd.cd (okS xs) (lims2 h r) 0
theorem rctL_len {xs : List Tst} {h r : Int} (hl : xs.length ≤ 1048576) : (rctL xs h r).length ≤ 1048576 := by
  have := ixs_len (isIn (h - r) h) 0 xs
  exact Cd.ls_len (by unfold rct; omega)
end Tq
set_option maxHeartbeats 3200000 in
theorem l08Recent_any (w : World) (v : Value) (xs : List Tst) (h r : Int) (hv : TeSl w v xs) (hl : xs.length ≤ 1048576) (h1 : 0 ≤ h ∧ h ≤ 100000) (h2 : 0 ≤ r ∧ r ≤ 300) :
    Calls Tryd.prog 61 #[v, .int .i64 h, .int .i64 r] w (RJt w (Tq.rct h r xs)) := by
  obtain ⟨i0, hi, hz0, hz1, hz2⟩ := info_parts info_i64
  obtain ⟨a, cap, rfl⟩ := hv.form
  have HV := Lib.hid hv
  have B1 := Lib.hid ((Below.refl w.heap.size w).alloc (Nat.le_refl _) (.cells #[] 2))
  have O1 : Hid (Own w.heap.size (w.alloc (.cells #[] 2)) (.slice (some ⟨w.heap.size, 0, none⟩) 0 0) (Tq.ixs (Tq.isIn (h - r) h) 0 (xs.take 0))) := Lib.hid (World.ownsRow_lit _ _ _ (Nat.le_refl _) (by decide) (by decide))
  have hwr : wrap64 (h - r) = h - r := IntWalk.wrap64_in _ ⟨by omega, by omega⟩
  clear hv
  go_enter Tryd.func61, Tryd.ntmps61
  go_wp2
  go_loopw [7, 8] (fun u i wr => ∃ (k : Nat), k ≤ xs.length ∧ i = .int .i64 k ∧ Hid (Own w.heap.size wr u (Tq.ixs (Tq.isIn (h - r) h) 0 (xs.take k))) ∧ Hid (Below w.heap.size w wr)) (fun _ i _ => xs.length - (intOf i).toNat)
  case atStart => exact ⟨0, Nat.zero_le _, rfl, O1, B1⟩
  case round =>
    obtain ⟨k, hk, rfl, ho, hbw⟩ := hrel
    by_cases hlt : k < xs.length
    · obtain ⟨b, off, cap1, hn, hbl, hcc⟩ := (HV.out.below hbw.out).at_ hlt
      simp only [Value.slice.injEq] at hn
      obtain ⟨rfl, -, rfl⟩ := hn
      have c4 := (hcc k hlt).c4
      have hlen := Tq.ixs_len (Tq.isIn (h - r) h) 0 (xs.take k)
      have hlt' : (xs.take k).length ≤ k := List.length_take_le _ _
      clear hcc
      by_cases ha : xs[k].ho ≤ h
      · by_cases hb : h - r ≤ xs[k].ho
        · have hw : Hid (Tq.ixs (Tq.isIn (h - r) h) 0 (xs.take k) ++ [(k : Int)] = Tq.ixs (Tq.isIn (h - r) h) 0 (xs.take (k + 1))) := Lib.hid (Tq.ixs_yes hlt (Ar.inB_t hb ha)).symm
          go_wp2_with (at_builtin; refine wpList_append_own _ rfl _ _ 41 rfl w.heap.size 2 i0 (.int .i64 0) 1 8 Tryd.underlying41 hi hz0 hz1 hz2 rfl (by decide) _ _ _ rfl (own_belowAll ho.out ((Below.refl _ _).alloc (Nat.le_refl _) _)) ⟨wr.heap.size, 0, none⟩ 1 1 [.int .i64 (k : Int)] rfl rfl (row_new _ [_] _) (iv_cell [(k : Int)]) ?c3 ?c4 ?c5 ?_)
          case c3 => unfold maxLen; omega
          case c4 => omega
          case c5 => have := hbw.out.size; first | omega | (simp; omega)
          intro v' w3 hown' hgrow _
          have hnx : Hid (Own w.heap.size w3 v' (Tq.ixs (Tq.isIn (h - r) h) 0 (xs.take (k + 1)))) := Lib.hid (by rw [← hw.out]; unfold Own; rw [iv_append, List.length_append]; exact hown')
          have hnb : Hid (Below w.heap.size w w3) := Lib.hid ((hbw.out.alloc hbw.out.size _).grown hgrow (by have := hbw.out.size; simp; omega) (fun j hj => (ho.out.lt j hj).1))
          clear hown' hgrow ho hbw
          go_wp2
          exact ⟨⟨k + 1, by omega, by go_num, hnx, hnb⟩, by simp only [intOf]; omega⟩
        · have hw : Hid (Tq.ixs (Tq.isIn (h - r) h) 0 (xs.take (k + 1)) = Tq.ixs (Tq.isIn (h - r) h) 0 (xs.take k)) := Lib.hid (Tq.ixs_no hlt (Ar.inB_f (by omega)))
          go_wp2
          exact ⟨⟨k + 1, by omega, by go_num, Lib.hid (by rw [hw.out]; exact ho.out), hbw⟩, by simp only [intOf]; omega⟩
      · have hw : Hid (Tq.ixs (Tq.isIn (h - r) h) 0 (xs.take (k + 1)) = Tq.ixs (Tq.isIn (h - r) h) 0 (xs.take k)) := Lib.hid (Tq.ixs_no hlt (Ar.inB_f (by omega)))
        go_wp2
        exact ⟨⟨k + 1, by omega, by go_num, Lib.hid (by rw [hw.out]; exact ho.out), hbw⟩, by simp only [intOf]; omega⟩
    · have hkn : k = xs.length := by omega
      have hh : xs.take k = xs := by rw [hkn, List.take_length]
      rw [hh] at ho
      clear hkn hh
      go_wp2
      go_ret
      exact ⟨_, rfl, ho.out, hbw.out⟩
set_option maxHeartbeats 1600000 in
theorem specRecentTests_any (w : World) (v : Value) (xs : List Tst) (h r : Int) (hv : TeSl w v xs) (hl : xs.length ≤ 1048576) :
    Calls Tryd.prog 27 #[v, .int .i64 h, .int .i64 r] w (RIt w (Tq.rctL xs h r) (Tq.rctC xs h r)) := by
  have C := Lib.hid (l08Ok_any w v xs hv hl)
  have CH := fun W => Lib.hid (hourS_any h W)
  have CN := fun W => Lib.hid (l08Near_any r W)
  obtain ⟨a, cap, rfl⟩ := hv.form
  have HV := Lib.hid hv
  clear hv
  unfold Tq.rctL Tq.rctC
  cases hq : Tq.okS xs with
  | false =>
    rw [hq] at C
    rw [Cd.ls_f, Cd.cd_f]
    clear hq
    go_enter Tryd.func27, Tryd.ntmps27
    go_wp2_with fail
    refine C.out.mono ?_
    rintro e w1 ⟨rfl, b1⟩
    have B1 := Lib.hid b1
    clear b1
    go_wp2_with fail
    go_ret2
    exact RIt.no B1.out
  | true =>
    rw [hq] at C
    clear hq
    cases hs : Tq.lims2 h r with
    | false =>
      rw [Cd.ls_tf, Cd.cd_tf]
      unfold Tq.lims2 at hs
      cases hp : Ar.inB 0 h 100000 with
      | false =>
        rw [hp] at CH
        clear hs hp
        go_enter Tryd.func27, Tryd.ntmps27
        go_wp2_with fail
        refine C.out.mono ?_
        rintro e w1 ⟨rfl, b1⟩
        have B1 := Lib.hid b1
        clear b1
        go_wp2_with fail
        refine (CH _).out.mono ?_
        rintro e w2 ⟨rfl, rfl⟩
        go_wp2_with fail
        go_ret2
        exact RIt.no B1.out
      | true =>
        rw [hp, Bool.true_and] at hs
        rw [hp] at CH
        rw [hs] at CN
        clear hs hp
        go_enter Tryd.func27, Tryd.ntmps27
        go_wp2_with fail
        refine C.out.mono ?_
        rintro e w1 ⟨rfl, b1⟩
        have B1 := Lib.hid b1
        clear b1
        go_wp2_with fail
        refine (CH _).out.mono ?_
        rintro e w2 ⟨rfl, rfl⟩
        go_wp2_with fail
        refine (CN _).out.mono ?_
        rintro e w2 ⟨rfl, rfl⟩
        go_wp2_with fail
        go_ret2
        exact RIt.no B1.out
    | true =>
      obtain ⟨h1, h2⟩ := Tq.lims2_of hs
      rw [Cd.ls_t, Cd.cd_t]
      unfold Tq.lims2 at hs
      rw [Bool.and_eq_true] at hs
      rw [hs.1] at CH
      rw [hs.2] at CN
      clear hs
      go_enter Tryd.func27, Tryd.ntmps27
      go_wp2_with fail
      refine C.out.mono ?_
      rintro e w1 ⟨rfl, b1⟩
      have B1 := Lib.hid b1
      clear b1
      go_wp2_with fail
      refine (CH _).out.mono ?_
      rintro e w2 ⟨rfl, rfl⟩
      go_wp2_with fail
      refine (CN _).out.mono ?_
      rintro e w2 ⟨rfl, rfl⟩
      go_wp2_with fail
      refine (l08Recent_any w1 _ xs h r (HV.out.below B1.out) hl h1 h2).mono ?_
      rintro e w3 ⟨u, rfl, o3, b3⟩
      have B3 := Lib.hid (bt B1.out b3)
      have O3 := Lib.hid (Go.Joins.ownsRow_le o3 B1.out.size)
      clear o3 b3
      obtain ⟨ua, ucap, rfl⟩ := (Own.sl O3.out).form
      go_wp2_with fail
      go_ret2
      exact RIt.yes rfl rfl O3.out B3.out
/-! ### the program -/
set_option maxHeartbeats 800000 in
theorem recentStated_any (h r : Int) (w : World) : Calls Tryd.prog 134 #[.agg #[.int .i64 h, .int .i64 r]] w fun e w' => e = .returned (.bool (Tq.lims2 h r)) ∧ Below w.heap.size w w' := by
  have C1 := Lib.hid (fun W => hourI_any h W)
  have C2 := Lib.hid (fun W => within_any r 0 300 W)
  unfold Tq.lims2
  generalize Ar.inB 0 r 300 = q at *
  generalize Ar.inB 0 h 100000 = p at *
  cases p
  · go_enter Tryd.func134, Tryd.ntmps134
    go_wp2_with fail
    refine (C1.out _).mono ?_
    rintro e w' ⟨rfl, rfl⟩
    go_wp2_with fail
    go_ret
    exact ⟨rfl, (Below.refl _ _).alloc (Nat.le_refl _) _⟩
  · go_enter Tryd.func134, Tryd.ntmps134
    go_wp2_with fail
    refine (C1.out _).mono ?_
    rintro e w' ⟨rfl, rfl⟩
    go_wp2_with fail
    refine (C2.out _).mono ?_
    rintro e w' ⟨rfl, rfl⟩
    go_wp2_with fail
    go_ret
    exact ⟨ret_bool (by simp), (Below.refl _ _).alloc (Nat.le_refl _) _⟩
set_option maxHeartbeats 1600000 in
/-- the code of a question: asked is any value whose method says t -/
theorem testsCode_any (w : World) (v : Value) (xs : List Tst) (T : TypeId) (y : Value) (g : Nat) (t : Bool) (hv : TeSl w v xs) (hl : xs.length ≤ 1048576) (hR : RulesT w)
    (hm : ∀ w : World, (method 245 T y "loop.example/g01013/impl.isStated").run Tryd.prog w = .ok (g, y) w) (eg : ∀ args w, (callFunc g args).run Tryd.prog w = .ok (.enter g args) w)
    (hg : ∀ W, Calls Tryd.prog g #[y] W fun e w' => e = .returned (.bool t) ∧ Below W.heap.size W w') :
    Calls Tryd.prog 66 #[v, .iface T y] w fun e w' => e = .returned (.int .i64 (Cd.cd (Tq.okS xs) t 0)) ∧ Below w.heap.size w w' := by
  have C := Lib.hid (implValidTests_any w v xs hv hl hR)
  have HG := Lib.hid hg
  clear hv hR hg
  generalize Tq.okS xs = q at *
  go_enter Tryd.func66, Tryd.ntmps66
  go_wp2_with fail
  refine C.out.mono ?_
  rintro e w1 ⟨rfl, b1⟩
  have B1 := Lib.hid b1
  clear b1
  go_wp2_with fail
  refine (HG.out _).mono ?_
  rintro e w2 ⟨rfl, b2⟩
  have B2 := Lib.hid (bt B1.out b2)
  clear b2
  go_wp2_with fail
  refine (statedCd_any _ _ _).mono ?_
  rintro e w3 ⟨rfl, rfl⟩
  go_wp2_with fail
  go_ret
  exact ⟨rfl, B2.out⟩
set_option maxHeartbeats 800000 in
theorem recentHave_any (h r : Int) (x : Tst) (w : World) (h1 : 0 ≤ h ∧ h ≤ 100000) (h2 : 0 ≤ r ∧ r ≤ 300) :
    Calls Tryd.prog 68 #[.agg #[.int .i64 h, .int .i64 r], .agg #[.int .i64 x.ki, .int .i64 x.sc, .int .i64 x.qu, .int .i64 x.de, .int .i64 x.ho]] w fun e w' => e = .returned (.bool (Tq.isIn (h - r) h x)) ∧ Below w.heap.size w w' := by
  have hwr : wrap64 (h - r) = h - r := IntWalk.wrap64_in _ ⟨by omega, by omega⟩
  have C := Lib.hid (fun W => within_any x.ho (h - r) h W)
  have hd : Ar.inB (h - r) x.ho h = Tq.isIn (h - r) h x := rfl
  rw [hd] at C
  clear hd
  generalize Tq.isIn (h - r) h x = q at *
  go_enter Tryd.func68, Tryd.ntmps68
  go_wp2_with fail
  refine (C.out _).mono ?_
  rintro e w' ⟨rfl, rfl⟩
  go_wp2_with fail
  go_ret
  exact ⟨rfl, ((Below.refl _ _).alloc (Nat.le_refl _) _).alloc (by simp) _⟩
set_option maxHeartbeats 3200000 in
theorem indicesOfTst_any (g : Nat) (y : Value) (p : Tst → Bool) (w : World) (v : Value) (xs : List Tst) (eg : ∀ args w, (callFunc g args).run Tryd.prog w = .ok (.enter g args) w) (hl : xs.length ≤ 1048576) (hv : TeSl w v xs)
    (hc : ∀ x W, Below w.heap.size w W → Calls Tryd.prog g #[y, .agg #[.int .i64 x.ki, .int .i64 x.sc, .int .i64 x.qu, .int .i64 x.de, .int .i64 x.ho]] W fun e w' => e = .returned (.bool (p x)) ∧ Below W.heap.size W w') :
    Calls Tryd.prog 67 #[v, .func (.func g) #[y] #[]] w (RJt w (Tq.ixs p 0 xs)) := by
  obtain ⟨i0, hi, hz0, hz1, hz2⟩ := info_parts info_i64
  obtain ⟨a, cap, rfl⟩ := hv.form
  have HV := Lib.hid hv
  have HC := Lib.hid hc
  clear hv hc
  go_enter Tryd.func67, Tryd.ntmps67
  go_wp2_with (at_make; refine wpList_make_own _ rfl _ _ 41 rfl w.heap.size 2 i0 (.int .i64 0) 1 Tryd.underlying41 hi hz0 hz1 .i64 .i64 _ xs.length rfl rfl rfl ?c1 ?c2 ?c3 ?_)
  case c1 => rw [hz2]; omega
  case c2 => unfold maxLen; omega
  case c3 => exact Nat.le_refl _
  intro w1 hown hg
  have O1 : Hid (Own w.heap.size w1 _ (Tq.ixs p 0 (xs.take 0))) := Lib.hid hown
  have B1 := Lib.hid ((Below.refl w.heap.size w).grown hg (Nat.le_refl _) (fun k hk => by cases hk))
  clear hown hg
  go_wp2
  go_loopw [5, 13] (fun u i wr => ∃ (k : Nat), k ≤ xs.length ∧ i = .int .i64 k ∧ Hid (Own w.heap.size wr u (Tq.ixs p 0 (xs.take k))) ∧ Hid (Below w.heap.size w wr)) (fun _ i _ => xs.length - (intOf i).toNat)
  case atStart => exact ⟨0, Nat.zero_le _, rfl, O1, B1⟩
  case round =>
    obtain ⟨k, hk, rfl, ho, hbw⟩ := hrel
    by_cases hlt : k < xs.length
    · have hltz : (k : Int) < (xs.length : Int) := by omega
      obtain ⟨b, off, cap1, hn, hbl, hcc⟩ := (HV.out.below hbw.out).at_ hlt
      simp only [Value.slice.injEq] at hn
      obtain ⟨rfl, -, rfl⟩ := hn
      obtain ⟨c0, c1, c2, c3, c4⟩ := hcc k hlt
      have hlen := Tq.ixs_len p 0 (xs.take k)
      have hlt' : (xs.take k).length ≤ k := List.length_take_le _ _
      have C := Lib.hid (fun W h => HC.out xs[k] W h)
      clear hcc
      cases hq : p xs[k] with
      | true =>
        have hw : Hid (Tq.ixs p 0 (xs.take k) ++ [(k : Int)] = Tq.ixs p 0 (xs.take (k + 1))) := Lib.hid (Tq.ixs_yes hlt hq).symm
        rw [hq] at C
        clear hq
        go_wp2_with fail
        go_at_fn g
        refine (C.out _ (by first | exact hbw.out | exact hbw.out.alloc hbw.out.size _)).mono ?_
        rintro e w2 ⟨rfl, b2⟩
        have O2 := Lib.hid (own_belowAll (own_belowAll ho.out (by first | exact Below.refl _ _ | exact (Below.refl _ _).alloc (Nat.le_refl _) _)) b2)
        have B2 := Lib.hid (bt (by first | exact hbw.out | exact hbw.out.alloc hbw.out.size _) b2)
        clear b2 ho hbw c0 c1 c2 c3 c4
        go_wp2_with (at_builtin; refine wpList_append_own _ rfl _ _ 41 rfl w.heap.size 2 i0 (.int .i64 0) 1 8 Tryd.underlying41 hi hz0 hz1 hz2 rfl (by decide) _ _ _ rfl (own_belowAll O2.out ((Below.refl _ _).alloc (Nat.le_refl _) _)) ⟨w2.heap.size, 0, none⟩ 1 1 [.int .i64 (k : Int)] rfl rfl (row_new _ [_] _) (iv_cell [(k : Int)]) ?c3 ?c4 ?c5 ?_)
        case c3 => unfold maxLen; omega
        case c4 => omega
        case c5 => have := B2.out.size; first | omega | (simp; omega)
        intro v' w3 hown' hgrow _
        have hnx : Hid (Own w.heap.size w3 v' (Tq.ixs p 0 (xs.take (k + 1)))) := Lib.hid (by rw [← hw.out]; unfold Own; rw [iv_append, List.length_append]; exact hown')
        have hnb : Hid (Below w.heap.size w w3) := Lib.hid ((B2.out.alloc B2.out.size _).grown hgrow (by have := B2.out.size; simp; omega) (fun j hj => (O2.out.lt j hj).1))
        clear hown' hgrow O2 B2
        go_wp2
        exact ⟨⟨k + 1, by omega, by go_num, hnx, hnb⟩, by simp only [intOf]; omega⟩
      | false =>
        have hw : Hid (Tq.ixs p 0 (xs.take (k + 1)) = Tq.ixs p 0 (xs.take k)) := Lib.hid (Tq.ixs_no hlt hq)
        rw [hq] at C
        clear hq
        go_wp2_with fail
        go_at_fn g
        refine (C.out _ (by first | exact hbw.out | exact hbw.out.alloc hbw.out.size _)).mono ?_
        rintro e w2 ⟨rfl, b2⟩
        have O2 := Lib.hid (own_belowAll (own_belowAll ho.out (by first | exact Below.refl _ _ | exact (Below.refl _ _).alloc (Nat.le_refl _) _)) b2)
        have B2 := Lib.hid (bt (by first | exact hbw.out | exact hbw.out.alloc hbw.out.size _) b2)
        clear b2 ho hbw c0 c1 c2 c3 c4
        go_wp2_with fail
        exact ⟨⟨k + 1, by omega, by go_num, Lib.hid (by rw [hw.out]; exact O2.out), B2⟩, by simp only [intOf]; omega⟩
    · have hltz : ¬ (k : Int) < (xs.length : Int) := by omega
      have hkn : k = xs.length := by omega
      have hh : xs.take k = xs := by rw [hkn, List.take_length]
      rw [hh] at ho
      clear hkn hh
      go_wp2
      go_ret
      exact ⟨_, rfl, ho.out, hbw.out⟩
set_option maxHeartbeats 1600000 in
theorem implRecentTests_any (w : World) (v : Value) (xs : List Tst) (h r : Int) (hv : TeSl w v xs) (hl : xs.length ≤ 1048576) (hR : RulesT w) :
    Calls Tryd.prog 28 #[v, .int .i64 h, .int .i64 r] w (RIt w (Tq.rctL xs h r) (Tq.rctC xs h r)) := by
  have hm : ∀ w : World, (method 245 75 (.agg #[.int .i64 h, .int .i64 r]) "loop.example/g01013/impl.isStated").run Tryd.prog w = .ok (134, .agg #[.int .i64 h, .int .i64 r]) w := fun _ => by kernel_rfl
  have C := Lib.hid (fun W (hb : Below w.heap.size w W) => testsCode_any W v xs 75 (.agg #[.int .i64 h, .int .i64 r]) 134 (Tq.lims2 h r) (hv.below hb) hl (hR.below hb) hm (enters_of Tryd.func134 (by kernel_rfl) rfl) (fun W => recentStated_any h r W))
  obtain ⟨a, cap, rfl⟩ := hv.form
  have HV := Lib.hid hv
  have BX := Lib.hid ((Below.refl w.heap.size w).alloc (Nat.le_refl _) (.cells #[.int .i64 h, .int .i64 r] 75))
  clear hv hR hm
  unfold Tq.rctL Tq.rctC
  cases hq : Tq.okS xs with
  | false =>
    rw [hq] at C
    rw [Cd.ls_f, Cd.cd_f]
    simp only [Cd.cd_f] at C
    clear hq
    go_enter Tryd.func28, Tryd.ntmps28
    go_wp2_with fail
    refine (C.out _ (by first | exact BX.out | exact Below.refl _ _)).mono ?_
    rintro e w1 ⟨rfl, b1⟩
    have B1 := Lib.hid (bt (by first | exact BX.out | exact Below.refl _ _) b1)
    clear b1
    go_wp2_with fail
    go_ret2
    exact RIt.no B1.out
  | true =>
    rw [hq] at C
    clear hq
    cases hs : Tq.lims2 h r with
    | false =>
      rw [hs] at C
      rw [Cd.ls_tf, Cd.cd_tf]
      simp only [Cd.cd_tf] at C
      clear hs
      go_enter Tryd.func28, Tryd.ntmps28
      go_wp2_with fail
      refine (C.out _ (by first | exact BX.out | exact Below.refl _ _)).mono ?_
      rintro e w1 ⟨rfl, b1⟩
      have B1 := Lib.hid (bt (by first | exact BX.out | exact Below.refl _ _) b1)
      clear b1
      go_wp2_with fail
      go_ret2
      exact RIt.no B1.out
    | true =>
      obtain ⟨h1, h2⟩ := Tq.lims2_of hs
      rw [hs] at C
      rw [Cd.ls_t, Cd.cd_t]
      simp only [Cd.cd_t] at C
      clear hs
      have CI := Lib.hid (fun W (hb : Below w.heap.size w W) => indicesOfTst_any 68 (.agg #[.int .i64 h, .int .i64 r]) (Tq.isIn (h - r) h) W _ xs (enters_of Tryd.func68 (by kernel_rfl) rfl) hl (HV.out.below hb) (fun x W2 _ => recentHave_any h r x W2 h1 h2))
      have KR := Lib.hid (fun W (hb : Below (w.alloc (.cells #[.int .i64 h, .int .i64 r] 75)).heap.size (w.alloc (.cells #[.int .i64 h, .int .i64 r] 75)) W) => (Whole.new w 75 #[.int .i64 h, .int .i64 r]).all hb)
      go_enter Tryd.func28, Tryd.ntmps28
      go_wp2_with fail
      refine (C.out _ BX.out).mono ?_
      rintro e w1 ⟨rfl, b1⟩
      have B1 := Lib.hid (bt BX.out b1)
      have k0 : w1.cell? ⟨w.heap.size, 0, none⟩ = some (.int .i64 h) := (KR.out w1 b1).at_ 0
      have k1 : w1.cell? ⟨w.heap.size, 1, none⟩ = some (.int .i64 r) := (KR.out w1 b1).at_ 1
      clear b1
      go_wp2_with fail
      refine (CI.out w1 B1.out).mono ?_
      rintro e w3 ⟨u, rfl, o3, b3⟩
      have B3 := Lib.hid (bt B1.out b3)
      have O3 := Lib.hid (Go.Joins.ownsRow_le o3 B1.out.size)
      clear o3 b3
      obtain ⟨ua, ucap, rfl⟩ := (Own.sl O3.out).form
      go_wp2_with fail
      go_ret2
      exact RIt.yes rfl rfl O3.out B3.out
end Go.Proofs.YteileaeeiejonaaDoor

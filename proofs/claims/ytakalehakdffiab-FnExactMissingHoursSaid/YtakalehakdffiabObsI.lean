/-
  OddObserved of chapter 4, by the model and by the program. No condition of its own.
-/
import Derived.Test.YtakalehakdffiabObsH
import Derived.Laws.AppendOwn
import Derived.Laws.OwnMore
namespace Go.Proofs.Ytakalehakdffiab
open Go.RowKit Go.Shelf
set_option linter.unusedVariables false
set_option maxRecDepth 100000

/-- what the program holds while it looks for odd observations: its two limits, the last observation, a row of its own -/
structure St (w0 wr : World) (g1 g2 g : Nat) (s d : Int) (y : Obs) (ex : Bool) (e : TypeId) (size : Nat) (v : Value) (n : Nat) (cs : List Value) : Prop where
  a1 : w0.heap.size ≤ g1
  a2 : g1 < g
  a3 : w0.heap.size ≤ g2
  a4 : g2 < g
  h1 : Whole wr g1 2 #[.int .i64 s]
  h2 : Whole wr g2 2 #[.int .i64 d]
  hl : LatO wr g y ex
  ho : wr.ownsRow (g + 1) e size v n cs
  hb : Below w0.heap.size w0 wr
section
variable {w0 wr w2 : World} {g1 g2 g : Nat} {s d : Int} {x y : Obs} {ex : Bool} {e : TypeId} {size : Nat} {v v' : Value} {n m : Nat} {cs ds : List Value}
theorem St.all (h : St w0 wr g1 g2 g s d y ex e size v n cs) (hb : Below wr.heap.size wr w2) : St w0 w2 g1 g2 g s d y ex e size v n cs :=
  ⟨h.a1, h.a2, h.a3, h.a4, h.h1.all hb, h.h2.all hb, Whole.all h.hl hb, own_belowAll h.ho hb, h.hb.trans (hb.mono h.hb.size)⟩
theorem St.alloc (h : St w0 wr g1 g2 g s d y ex e size v n cs) (o : Obj) : St w0 (wr.alloc o) g1 g2 g s d y ex e size v n cs := h.all ((Below.refl _ _).alloc (Nat.le_refl _) o)
theorem St.drewN (h : St w0 wr g1 g2 g s d y ex e size v n cs) (q : Nat) : St w0 (wr.drewN q) g1 g2 g s d y ex e size v n cs := h.all (below_drewW _ _)
theorem St.pass (h : St w0 wr g1 g2 g s d y ex e size v n cs) (h2 : LatO w2 g x true) (hg : wr.grownBy w2 (some g)) : St w0 w2 g1 g2 g s d x true e size v n cs :=
  ⟨h.a1, h.a2, h.a3, h.a4, h.h1.far hg (by have := h.a2; omega), h.h2.far hg (by have := h.a4; omega), h2, own_far h.ho hg (Nat.lt_succ_self _), below_only h.hb hg (by have := h.a1; have := h.a2; omega) h.hb.size⟩
theorem St.app (h : St w0 wr g1 g2 g s d y ex e size v n cs) (ho : w2.ownsRow (g + 1) e size v' m ds) (hg : wr.grownBy w2 v.ownBlock) : St w0 w2 g1 g2 g s d y ex e size v' m ds := by
  have hv : ∀ j, v.ownBlock = some j → g + 1 ≤ j := fun j hj => (h.ho.lt j hj).1
  have k1 := h.a1; have k2 := h.a2; have k3 := h.a3; have k4 := h.a4
  exact ⟨h.a1, h.a2, h.a3, h.a4, h.h1.grow hg (fun j hj => by have := hv j hj; omega), h.h2.grow hg (fun j hj => by have := hv j hj; omega), Whole.grow h.hl hg (fun j hj => by have := hv j hj; omega), ho,
    h.hb.grown hg h.hb.size (fun j hj => by have := hv j hj; omega)⟩
theorem St.lt (h : St w0 wr g1 g2 g s d y ex e size v n cs) : g < wr.heap.size := h.hl.lt
end
theorem St.start {w0 w1 w3 : World} {s d : Int} {e : TypeId} {size : Nat} {v : Value} (hb : Below w0.heap.size w0 w1)
    (hg : (((w1.alloc (.cells #[.int .i64 s] 2)).alloc (.cells #[.int .i64 d] 2)).alloc (.cells #[.int .i64 0, .int .i64 0, .int .i64 0, .int .i64 0, .bool false] 104)).grownBy w3 none)
    (ho : w3.ownsRow (w1.heap.size + 3) e size v 0 []) : St w0 w3 w1.heap.size (w1.heap.size + 1) (w1.heap.size + 2) s d ⟨0, 0, 0, 0⟩ false e size v 0 [] := by
  have hs := hb.size
  have k1 : Whole (w1.alloc (.cells #[.int .i64 s] 2)) w1.heap.size 2 #[.int .i64 s] := Whole.new _ _ _
  have k2 : Whole ((w1.alloc (.cells #[.int .i64 s] 2)).alloc (.cells #[.int .i64 d] 2)) (w1.heap.size + 1) 2 #[.int .i64 d] := by
    have := Whole.new (w1.alloc (.cells #[.int .i64 s] 2)) 2 #[.int .i64 d]
    simpa using this
  have k3 : Whole (((w1.alloc (.cells #[.int .i64 s] 2)).alloc (.cells #[.int .i64 d] 2)).alloc (.cells #[.int .i64 0, .int .i64 0, .int .i64 0, .int .i64 0, .bool false] 104)) (w1.heap.size + 2) 104 #[.int .i64 0, .int .i64 0, .int .i64 0, .int .i64 0, .bool false] := by
    have := Whole.new ((w1.alloc (.cells #[.int .i64 s] 2)).alloc (.cells #[.int .i64 d] 2)) 104 #[.int .i64 0, .int .i64 0, .int .i64 0, .int .i64 0, .bool false]
    simpa using this
  exact ⟨hs, by omega, by omega, by omega, ((k1.alloc _).alloc _).grow hg (fun j hj => by cases hj), (k2.alloc _).grow hg (fun j hj => by cases hj), Whole.grow k3 hg (fun j hj => by cases hj), ho,
    (((hb.alloc hs _).alloc (by simp; omega) _).alloc (by simp; omega) _).grown hg (by simp; omega) (fun j hj => by cases hj)⟩
def Ob.oddL (xs : List Obs) (s d : Int) : List Int := Ob.ls (Ob.okS xs) (Ob.lims s d) (Ob.odds s d xs xs.length)
def Ob.oddC (xs : List Obs) (s d : Int) : Int := Ob.cd (Ob.okS xs) (Ob.lims s d) 0
theorem Ob.oddL_len {xs : List Obs} {s d : Int} (h : xs.length ≤ 1048576) : (Ob.oddL xs s d).length ≤ 1048576 := by
  unfold Ob.oddL Ob.ls
  have := Ob.odds_len s d xs xs.length
  split <;> (try split) <;> simp <;> omega
/-- how a function ends that answers numbers and a code -/
def RI (w : World) (l : List Int) (c : Int) (e : Ending) (w' : World) : Prop := ∃ u, e = .returned (.tuple #[u, .int .i64 c]) ∧ Own w.heap.size w' u l ∧ Below w.heap.size w w'
theorem RI.no {w w' : World} {c : Int} (hb : Below w.heap.size w w') : RI w [] c (.returned (.tuple #[.slice none 0 0, .int .i64 c])) w' := ⟨_, rfl, World.ownsRow_nil _ _ _ _, hb⟩
theorem RI.yes {w w' : World} {u : Value} {l l' : List Int} {c c' : Int} (hl : l' = l) (hc : c = c') (ho : Own w.heap.size w' u l) (hb : Below w.heap.size w w') : RI w l' c' (.returned (.tuple #[u, .int .i64 c])) w' := by
  subst hl hc; exact ⟨_, rfl, ho, hb⟩
theorem ls_f {α : Type} (b : Bool) (l : List α) : Ob.ls false b l = [] := rfl
theorem ls_tf {α : Type} (l : List α) : Ob.ls true false l = [] := rfl
theorem ls_t {α : Type} (l : List α) : Ob.ls true true l = l := rfl
theorem lims_of {s d : Int} (h : Ob.lims s d = true) : 0 ≤ s ∧ s ≤ 10000 ∧ 0 ≤ d ∧ d ≤ 10000 := by
  unfold Ob.lims at h
  rw [Bool.and_eq_true, Ob.inB_iff, Ob.inB_iff] at h
  exact ⟨h.1.1, h.1.2, h.2.1, h.2.2⟩
set_option maxHeartbeats 1600000 in
theorem specOddObserved_any (w : World) (v : Value) (xs : List Obs) (s d : Int) (hv : ObSl w v xs) (hl : xs.length ≤ 1048576) :
    Calls Try.prog 50 #[v, .int .i64 s, .int .i64 d] w (RI w (Ob.oddL xs s d) (Ob.oddC xs s d)) := by
  obtain ⟨i0, hi, hz0, hz1, hz2⟩ := info_parts info_i64
  have C := Lib.hid (l04Ok_any w v xs hv hl)
  obtain ⟨a, cap, rfl⟩ := hv.form
  have HV := Lib.hid hv
  clear hv
  unfold Ob.oddL Ob.oddC
  cases hq : Ob.okS xs with
  | false =>
    rw [hq] at C
    rw [ls_f, Ob.cd_f]
    clear hq
    go_enter Try.func50, Try.ntmps50
    go_wp2_with fail
    refine C.out.mono ?_
    rintro e w1 ⟨rfl, b1⟩
    have B1 := Lib.hid b1
    clear b1
    go_wp2_with fail
    go_ret2
    exact RI.no B1.out
  | true =>
    have h48 := Ob.len_ok hq
    have HF := Lib.hid ((Ob.okS_iff xs).1 hq).2.1
    rw [hq] at C
    clear hq
    cases hs : Ob.lims s d with
    | false =>
      rw [ls_tf, Ob.cd_tf]
      go_enter Try.func50, Try.ntmps50
      go_wp2_with fail
      refine C.out.mono ?_
      rintro e w1 ⟨rfl, b1⟩
      have B1 := Lib.hid b1
      clear b1
      go_wp2_with (go_at_call 100; refine (l04Limits_any _ _ _).mono ?_; rintro e w' ⟨rfl, rfl⟩)
      go_ret2
      exact RI.no B1.out
    | true =>
      obtain ⟨s1, s2, d1, d2⟩ := lims_of hs
      rw [ls_t, Ob.cd_t]
      go_enter Try.func50, Try.ntmps50
      go_wp2_with fail
      refine C.out.mono ?_
      rintro e w1 ⟨rfl, b1⟩
      have B1 := Lib.hid (b1.alloc b1.size (.cells #[] 2))
      have O1 : Hid (Own w.heap.size (w1.alloc (.cells #[] 2)) (.slice (some ⟨w1.heap.size, 0, none⟩) 0 0) (Ob.odds s d xs 1)) := Lib.hid (World.ownsRow_lit _ _ _ b1.size (by decide) (by decide))
      clear b1
      go_wp2_with (go_at_call 100; refine (l04Limits_any _ _ _).mono ?_; rintro e w' ⟨rfl, rfl⟩)
      go_loopw [8, 9] (fun u i wr => ∃ (k : Nat), k ≤ max 1 xs.length ∧ 1 ≤ k ∧ i = .int .i64 k ∧ Hid (Own w.heap.size wr u (Ob.odds s d xs k)) ∧ Hid (Below w.heap.size w wr)) (fun _ i _ => max 1 xs.length - (intOf i).toNat)
      case atStart => exact ⟨1, by omega, by omega, rfl, O1, B1⟩
      case round =>
        obtain ⟨k, hk, hk1, rfl, ho, hbw⟩ := hrel
        by_cases hlt : k < xs.length
        · obtain ⟨m, rfl⟩ : ∃ m, k = m + 1 := ⟨k - 1, by omega⟩
          obtain ⟨b, off, cap1, hn, hbl, hcc⟩ := (HV.out.below hbw.out).at_ hlt
          simp only [Value.slice.injEq] at hn
          obtain ⟨rfl, -, rfl⟩ := hn
          have CO := fun q => Lib.hid (l04Odd_any (xs[m]'(by omega)) xs[m + 1] b (off + m * 4) b (off + (m + 1) * 4) s d (wr.drewN q) ((hcc m (by omega)).drewN q) ((hcc (m + 1) hlt).drewN q) (HF.out _ (List.getElem_mem _)) (HF.out _ (List.getElem_mem _)) s1 s2 d1 d2)
          have hn := Lib.hid (show Ob.odds s d xs (m + 1 + 1) = Ob.odds s d xs (m + 1) ++ (if 0 < m + 1 ∧ Ob.odd s d (Ob.nth xs m) (Ob.nth xs (m + 1)) = true then [((m + 1 : Nat) : Int)] else []) from rfl)
          rw [Ob.nth_eq hlt, Ob.nth_eq (show m < xs.length by omega)] at hn
          clear hcc
          cases ho' : Ob.odd s d (xs[m]'(by omega)) xs[m + 1] with
          | true =>
            have hw : Hid (Ob.odds s d xs (m + 1) ++ [((m + 1 : Nat) : Int)] = Ob.odds s d xs (m + 1 + 1)) := Lib.hid (by rw [hn.out, if_pos ⟨by omega, ho'⟩])
            rw [ho'] at CO
            clear ho' hn
            go_wp2_with fail
            go_quiet ((go_at_call 101; exact Calls.quiet_of (CO _).out))
            go_wp2_with (at_builtin; refine wpList_append_own _ rfl _ _ 51 rfl w.heap.size 2 i0 (.int .i64 0) 1 8 Try.underlying51 hi hz0 hz1 hz2 rfl (by decide) _ _ _ rfl ((own_belowAll ho.out (below_drewW wr _)).alloc _) ⟨wr.heap.size, 0, none⟩ 1 1 [.int .i64 ((m : Int) + 1)] rfl rfl (row_new _ [_] _) (iv_cell [(m : Int) + 1]) ?c3 ?c4 ?c5 ?_)
            case c3 => have := Ob.odds_len s d xs (m + 1); unfold maxLen; omega
            case c4 => have := Ob.odds_len s d xs (m + 1); omega
            case c5 => have := hbw.out.size; first | omega | (simp; omega)
            intro v' w3 hown' hgrow _
            have hnx : Hid (Own w.heap.size w3 v' (Ob.odds s d xs (m + 1 + 1))) := Lib.hid (by rw [← hw.out]; unfold Own; rw [iv_append, List.length_append]; exact hown')
            have hnb : Hid (Below w.heap.size w w3) := Lib.hid (((below_drewN hbw.out _).alloc hbw.out.size _).grown hgrow (by have := hbw.out.size; simp; omega) (fun j hj => (ho.out.lt j hj).1))
            clear hown' hgrow ho hbw
            go_wp2
            exact ⟨⟨m + 1 + 1, by omega, by omega, by go_num, hnx, hnb⟩, by simp only [intOf]; omega⟩
          | false =>
            have hw : Hid (Ob.odds s d xs (m + 1) = Ob.odds s d xs (m + 1 + 1)) := Lib.hid (by rw [hn.out, if_neg (fun h => by rw [ho'] at h; cases h.2), List.append_nil])
            rw [ho'] at CO
            clear ho' hn
            go_wp2_with fail
            go_quiet ((go_at_call 101; exact Calls.quiet_of (CO _).out))
            go_wp2
            exact ⟨⟨m + 1 + 1, by omega, by omega, by go_num, Lib.hid (by rw [← hw.out]; exact own_belowAll ho.out (below_drewW wr _)), Lib.hid (below_drewN hbw.out _)⟩, by simp only [intOf]; omega⟩
        · have HK : Hid (Ob.odds s d xs xs.length = Ob.odds s d xs k) := Lib.hid (by
            rcases Nat.eq_zero_or_pos xs.length with h0 | h0
            · obtain rfl : k = 1 := by omega
              rw [h0]; simp [Ob.odds]
            · congr 1; omega)
          have HZ := ho
          go_wp2
          go_ret2
          exact RI.yes HK.out rfl HZ.out hbw.out
set_option maxHeartbeats 3200000 in
theorem implOddObserved_any (w : World) (v : Value) (xs : List Obs) (s d : Int) (hv : ObSl w v xs) (hl : xs.length ≤ 1048576) :
    Calls Try.prog 34 #[v, .int .i64 s, .int .i64 d] w (RI w (Ob.oddL xs s d) (Ob.oddC xs s d)) := by
  obtain ⟨i0, hi, hz0, hz1, hz2⟩ := info_parts info_i64
  have eg := enters_of Try.func121 (by kernel_rfl) rfl
  have C := fun t => Lib.hid (observedCode_any w v xs t hv hl)
  obtain ⟨a, cap, rfl⟩ := hv.form
  have HV := Lib.hid hv
  clear hv
  unfold Ob.oddL Ob.oddC
  cases hq : Ob.okS xs with
  | false =>
    rw [hq] at C
    rw [ls_f, Ob.cd_f]
    clear hq
    go_enter Try.func34, Try.ntmps34
    go_wp2_with (go_at_call 81; refine (areHourlyChanges_any _ _ _).mono ?_; rintro e w' ⟨rfl, rfl⟩)
    refine (C _).out.mono ?_
    rintro e w1 ⟨rfl, b1⟩
    have B1 := Lib.hid b1
    clear b1
    simp only [Ob.cd_f]
    go_wp2_with fail
    go_ret2
    exact RI.no B1.out
  | true =>
    have h48 := Ob.len_ok hq
    have HF := Lib.hid ((Ob.okS_iff xs).1 hq).2.1
    rw [hq] at C
    clear hq
    cases hs : Ob.lims s d with
    | false =>
      rw [ls_tf, Ob.cd_tf]
      go_enter Try.func34, Try.ntmps34
      go_wp2_with (go_at_call 81; refine (areHourlyChanges_any _ _ _).mono ?_; rintro e w' ⟨rfl, rfl⟩)
      refine (C _).out.mono ?_
      rintro e w1 ⟨rfl, b1⟩
      have B1 := Lib.hid b1
      clear b1
      simp only [Ob.cd_tf]
      go_wp2_with fail
      go_ret2
      exact RI.no B1.out
    | true =>
      obtain ⟨s1, s2, d1, d2⟩ := lims_of hs
      rw [ls_t, Ob.cd_t]
      go_enter Try.func34, Try.ntmps34
      go_wp2_with (go_at_call 81; refine (areHourlyChanges_any _ _ _).mono ?_; rintro e w' ⟨rfl, rfl⟩)
      refine (C _).out.mono ?_
      rintro e w1 ⟨rfl, b1⟩
      have B1 := Lib.hid b1
      have hs1 := b1.size
      clear b1
      simp only [Ob.cd_t]
      go_wp2_with fail
      refine (oddBeyond_any s d w1).mono ?_
      rintro e w2 ⟨rfl, rfl⟩
      go_wp2_with (at_make; refine wpList_make_own _ rfl _ _ 51 rfl (w1.heap.size + 3) 2 i0 (.int .i64 0) 1 Try.underlying51 hi hz0 hz1 .i64 .i64 _ xs.length rfl rfl rfl ?c1 ?c2 ?c3 ?_)
      case c1 => rw [hz2]; omega
      case c2 => unfold maxLen; omega
      case c3 => simp
      intro w3 hown hg
      have S0 := Lib.hid (St.start B1.out hg hown)
      clear hown hg
      go_wp2_with fail
      generalize w1.heap.size = g1 at *
      go_loopw [11, 32] (fun u i wr => ∃ (k : Nat) (y : Obs) (ex : Bool), k ≤ xs.length ∧ i = .int .i64 k ∧ Hid (St w wr g1 (g1 + 1) (g1 + 2) s d y ex 2 1 u (Ob.odds s d xs k).length (iv (Ob.odds s d xs k))) ∧ Hid ((ex = false ∧ k = 0) ∨ (ex = true ∧ 0 < k ∧ y = Ob.nth xs (k - 1)))) (fun _ i _ => xs.length - (intOf i).toNat)
      case atStart => exact ⟨0, ⟨0, 0, 0, 0⟩, false, Nat.zero_le _, rfl, S0, Lib.hid (Or.inl ⟨rfl, rfl⟩)⟩
      case round =>
        obtain ⟨k, y, ex, hk, rfl, hS, hx⟩ := hrel
        by_cases hlt : k < xs.length
        · have hltz : (k : Int) < (xs.length : Int) := by omega
          obtain ⟨b, off, cap1, hn, hbl, hcc⟩ := (HV.out.below hS.out.hb).at_ hlt
          simp only [Value.slice.injEq] at hn
          obtain ⟨rfl, -, rfl⟩ := hn
          obtain ⟨c0, c1, c2, c3⟩ := hcc k hlt
          have hgl := hS.out.lt
          have hn := Lib.hid (show Ob.odds s d xs (k + 1) = Ob.odds s d xs k ++ (if 0 < k ∧ Ob.odd s d (Ob.nth xs (k - 1)) (Ob.nth xs k) = true then [(k : Int)] else []) from rfl)
          rw [Ob.nth_eq hlt] at hn
          have XB : Hid (Whole (boxObs wr xs[k] 30) wr.heap.size 30 #[.int .i64 xs[k].ho, .int .i64 xs[k].sn, .int .i64 xs[k].dg, .int .i64 xs[k].wi]) := Lib.hid (Whole.new _ _ _)
          have SB : Hid (St w (boxObs wr xs[k] 30) g1 (g1 + 1) (g1 + 2) s d y ex 2 1 _ (Ob.odds s d xs k).length (iv (Ob.odds s d xs k))) := Lib.hid (hS.out.alloc _)
          clear hcc
          go_wp2_with fail
          refine (latO_pass (g1 + 2) y xs[k] ex (boxObs wr xs[k] 30) SB.out.hl).mono ?_
          rintro e w2 ⟨rfl, h2, g2⟩
          have S2 := Lib.hid (SB.out.pass h2 g2)
          have X2 := XB.out.far g2 (by omega)
          have e0 : w2.cell? ⟨wr.heap.size, 0, none⟩ = some (.int .i64 xs[k].ho) := X2.at_ 0
          have e1 : w2.cell? ⟨wr.heap.size, 1, none⟩ = some (.int .i64 xs[k].sn) := X2.at_ 1
          have e2 : w2.cell? ⟨wr.heap.size, 2, none⟩ = some (.int .i64 xs[k].dg) := X2.at_ 2
          have e3 : w2.cell? ⟨wr.heap.size, 3, none⟩ = some (.int .i64 xs[k].wi) := X2.at_ 3
          have ne0 := X2.lt
          clear h2 g2 X2 c0 c1 c2 c3 SB hS
          have SA := fun o => Lib.hid (S2.out.alloc o)
          rcases hx.out with ⟨rfl, rfl⟩ | ⟨rfl, h0, rfl⟩
          · have hw : Hid (Ob.odds s d xs 0 = Ob.odds s d xs (0 + 1)) := Lib.hid (by rw [hn.out, if_neg (by omega)]; simp)
            clear hx
            go_wp2_with fail
            exact ⟨⟨1, xs[0], true, by omega, by go_num, Lib.hid (by rw [← hw.out]; exact (SA _).out), Lib.hid (Or.inr ⟨rfl, by omega, (Ob.nth_eq hlt).symm⟩)⟩, by simp only [intOf]; omega⟩
          · have FX := Lib.hid (HF.out _ (List.getElem_mem hlt))
            have FY := Lib.hid (show Ob.Fits (Ob.nth xs (k - 1)) by rw [Ob.nth_eq (show k - 1 < xs.length by omega)]; exact HF.out _ (List.getElem_mem _))
            have hlast : Hid (xs[k] = Ob.nth xs (k + 1 - 1)) := Lib.hid (Ob.nth_eq hlt).symm
            clear hx
            generalize Ob.nth xs (k - 1) = y at *
            cases ho' : Ob.odd s d y xs[k] with
            | true =>
              have hw : Hid (Ob.odds s d xs k ++ [(k : Int)] = Ob.odds s d xs (k + 1)) := Lib.hid (by rw [hn.out, if_pos ⟨h0, ho'⟩])
              have CO := fun W e1 e2 => Lib.hid (oddLit_any y xs[k] g1 (g1 + 1) s d W e1 e2 FY.out FX.out s1 s2 d1 d2)
              rw [ho'] at CO
              clear ho' hn
              go_wp2_with fail
              refine (CO _ ((SA _).out.h1.at_ 0) ((SA _).out.h2.at_ 0)).out.mono ?_
              rintro e w4 ⟨rfl, b4⟩
              have S4 := Lib.hid ((SA _).out.all b4)
              clear b4
              go_wp2_with (at_builtin; refine wpList_append_own _ rfl _ _ 51 rfl (g1 + 2 + 1) 2 i0 (.int .i64 0) 1 8 Try.underlying51 hi hz0 hz1 hz2 rfl (by decide) _ _ _ rfl (S4.out.alloc _).ho ⟨w4.heap.size, 0, none⟩ 1 1 [.int .i64 (k : Int)] rfl rfl (row_new _ [_] _) (iv_cell [(k : Int)]) ?c3 ?c4 ?c5 ?_)
              case c3 => have := Ob.odds_len s d xs k; unfold maxLen; omega
              case c4 => have := Ob.odds_len s d xs k; omega
              case c5 => have := S4.out.lt; first | omega | (simp; omega)
              intro v' w5 hown' hgrow _
              have S5 : Hid (St w w5 g1 (g1 + 1) (g1 + 2) s d xs[k] true 2 1 v' (Ob.odds s d xs (k + 1)).length (iv (Ob.odds s d xs (k + 1)))) := Lib.hid (by rw [← hw.out, iv_append, List.length_append]; exact (S4.out.alloc _).app hown' hgrow)
              clear hown' hgrow S4
              go_wp2
              exact ⟨⟨k + 1, xs[k], true, by omega, by go_num, S5, Lib.hid (Or.inr ⟨rfl, by omega, hlast.out⟩)⟩, by simp only [intOf]; omega⟩
            | false =>
              have hw : Hid (Ob.odds s d xs k = Ob.odds s d xs (k + 1)) := Lib.hid (by rw [hn.out, if_neg (fun h => by rw [ho'] at h; cases h.2), List.append_nil])
              have CO := fun W e1 e2 => Lib.hid (oddLit_any y xs[k] g1 (g1 + 1) s d W e1 e2 FY.out FX.out s1 s2 d1 d2)
              rw [ho'] at CO
              clear ho' hn
              go_wp2_with fail
              refine (CO _ ((SA _).out.h1.at_ 0) ((SA _).out.h2.at_ 0)).out.mono ?_
              rintro e w4 ⟨rfl, b4⟩
              have S4 := Lib.hid ((SA _).out.all b4)
              clear b4
              go_wp2_with fail
              exact ⟨⟨k + 1, xs[k], true, by omega, by go_num, Lib.hid (by rw [← hw.out]; exact S4.out), Lib.hid (Or.inr ⟨rfl, by omega, hlast.out⟩)⟩, by simp only [intOf]; omega⟩
        · have hltz : ¬ (k : Int) < (xs.length : Int) := by omega
          have hkn : k = xs.length := by omega
          have HK : Hid (Ob.odds s d xs xs.length = Ob.odds s d xs k) := Lib.hid (by rw [hkn])
          clear hkn
          go_wp2
          go_ret2
          exact RI.yes HK.out rfl (Go.Joins.ownsRow_le hS.out.ho (by have := hS.out.a1; omega)) hS.out.hb
end Go.Proofs.Ytakalehakdffiab

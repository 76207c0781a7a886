/-
  Lists of numbers in chapter 12: sums, bounds, by how much each number is greater than the one before it. No condition of its own.
-/
import Derived.Test.YtobcflcmlejajaaDoorVoB
import Derived.Test.YtobcflcmlejajaaDoorVoM
import Derived.Test.YtobcflcmlejajaaDoorIntG
import Derived.Test.YtobcflcmlejajaaDoorIntsM
import Derived.Deep.QuietTactic
import Derived.BigQuiet
namespace Go.Proofs.YtobcflcmlejajaaDoor
open Go.RowKit Go.Shelf
set_option linter.unusedVariables false
set_option maxRecDepth 100000

/-- how a call ends that answers a list of numbers and a code -/
def RVs (w : World) (l : List Int) (c : Int) (e : Ending) (w' : World) : Prop := ∃ u, e = .returned (.tuple #[u, .int .i64 c]) ∧ Own w.heap.size w' u l ∧ Below w.heap.size w w'
theorem RVs.no {w w' : World} {c : Int} (hb : Below w.heap.size w w') : RVs w [] c (.returned (.tuple #[.slice none 0 0, .int .i64 c])) w' := ⟨_, rfl, World.ownsRow_nil _ _ _ _, hb⟩
theorem RVs.yes {w w' : World} {u : Value} {l l' : List Int} {c c' : Int} (hl : l' = l) (hc : c = c') (ho : Own w.heap.size w' u l) (hb : Below w.heap.size w w') : RVs w l' c' (.returned (.tuple #[u, .int .i64 c])) w' := by
  subst hl hc; exact ⟨_, rfl, ho, hb⟩
/-- .. and whether there is one -/
def RVb (w : World) (l : List Int) (c : Bool) (e : Ending) (w' : World) : Prop := ∃ u, e = .returned (.tuple #[u, .bool c]) ∧ Own w.heap.size w' u l ∧ Below w.heap.size w w'
/-- .. alone -/
def RV1 (w : World) (l : List Int) (e : Ending) (w' : World) : Prop := ∃ u, e = .returned u ∧ Own w.heap.size w' u l ∧ Below w.heap.size w w'
/-! ### sums -/
theorem itself_any (x : Int) (w : World) : Calls Tryd.prog 78 #[.int .i64 x] w fun e w' => e = .returned (.int .i64 x) ∧ w = w' := by
  go_enter Tryd.func78, Tryd.ntmps78
  go_wp2
  go_ret
  exact ⟨rfl, rfl⟩
namespace Vm
theorem sum_snoc {zs : List Int} {k : Nat} (h : k < zs.length) : (zs.take (k + 1)).sum = (zs.take k).sum + zs[k] := sk_succ h
end Vm
set_option maxHeartbeats 1600000 in
theorem sumI_any (w : World) (v : Value) (zs : List Int) (hl : zs.length ≤ 64) (hv : Sl w v zs) (hms : ∀ k (hk : k < zs.length), 0 ≤ zs[k] ∧ zs[k] ≤ 1000000000) :
    Calls Tryd.prog 77 #[v, .func (.func 78) #[] #[]] w fun e w' => e = .returned (.int .i64 zs.sum) ∧ w = w' := by
  have eg := enters_of Tryd.func78 (by kernel_rfl) rfl
  obtain ⟨a, cap, rfl⟩ := hv.form
  have HV := Lib.hid hv
  have HM := Lib.hid hms
  clear hv hms
  go_enter Tryd.func77, Tryd.ntmps77
  go_wp2
  go_loop [5, 10] (fun s i => ∃ (k : Nat) (z : Int), k ≤ zs.length ∧ i = .int .i64 k ∧ s = .int .i64 z ∧ 0 ≤ z ∧ z ≤ 1000000000 * k ∧ Hid (z = (zs.take k).sum)) (fun _ i => zs.length - (intOf i).toNat)
  case atStart => exact ⟨0, 0, Nat.zero_le _, rfl, rfl, by omega, by omega, Lib.hid rfl⟩
  case round =>
    obtain ⟨k, z, hk, rfl, rfl, z1, z2, hz⟩ := hrel
    by_cases hlt : k < zs.length
    · have hltz : (k : Int) < (zs.length : Int) := by omega
      obtain ⟨b', off, cap1, hn, hbl, hcc⟩ := HV.out.atI hlt
      simp only [Value.slice.injEq] at hn
      obtain ⟨rfl, -, rfl⟩ := hn
      have k1 := hcc k hlt
      obtain ⟨m1, m2⟩ := HM.out k hlt
      have hn := Lib.hid (Vm.sum_snoc hlt)
      have C := fun W => Lib.hid (itself_any zs[k] W)
      clear hcc
      generalize zs[k] = y at *
      go_wp2_with fail
      refine (C _).out.mono ?_
      rintro e w1 ⟨rfl, rfl⟩
      go_wp2_with fail
      exact ⟨⟨k + 1, z + y, by omega, by go_num, rfl, by omega, by omega, Lib.hid (by rw [hn.out, hz.out])⟩, by simp only [intOf]; omega⟩
    · have hltz : ¬ (k : Int) < (zs.length : Int) := by omega
      have hkz : k = zs.length := by omega
      have hn : Hid (z = zs.sum) := Lib.hid (by rw [hz.out, hkz, List.take_length])
      clear hkz
      go_wp2
      go_ret
      exact ⟨ret_int hn.out, rfl⟩
/-! ### bounds -/
/-- the world with a number in a new block -/
def boxN (w : World) (n : Int) (t : TypeId) : World := w.alloc (.cells #[.int .i64 n] t)
theorem boxN_below (w : World) (n : Int) (t : TypeId) : Below w.heap.size w (boxN w n t) := (Below.refl _ _).alloc (Nat.le_refl _) _
theorem boxN_kept {w W : World} {n : Int} {t : TypeId} (h : Below (boxN w n t).heap.size (boxN w n t) W) : W.cell? ⟨w.heap.size, 0, none⟩ = some (.int .i64 n) := ((Whole.new w t #[.int .i64 n]).all h).at_ 0
set_option maxHeartbeats 800000 in
theorem isShort1_any (x g : Int) (b : Nat) (w : World) (hc : w.cell? ⟨b, 0, none⟩ = some (.int .i64 g)) :
    Calls Tryd.prog 96 #[.int .i64 x, .pointer (some ⟨b, 0, none⟩)] w fun e w' => e = .returned (.bool (!Ar.inB 0 x g)) ∧ w = w' := by
  go_enter Tryd.func96, Tryd.ntmps96
  go_wp2_with (go_at_call 69; refine (within_any _ _ _ _).mono ?_; rintro e w' ⟨rfl, rfl⟩)
  go_ret
  exact ⟨rfl, rfl⟩
set_option maxHeartbeats 1600000 in
theorem isShortList_any (w : World) (v : Value) (zs : List Int) (g : Int) (hv : Sl w v zs) (hl : zs.length ≤ 1048576) :
    Calls Tryd.prog 62 #[v, .int .i64 g] w fun e w' => e = .returned (.bool (Vm.okI zs g)) ∧ Below w.heap.size w w' := by
  have B := Lib.hid (boxN_below w g 2)
  have C := Lib.hid (containsFuncI_any 96 #[.pointer (some ⟨w.heap.size, 0, none⟩)] (enters_of Tryd.func96 (by kernel_rfl) rfl) (fun x => !Ar.inB 0 x g) (boxN w g 2) v zs hl (hv.below B.out)
    (fun x W hW => (isShort1_any x g w.heap.size W (boxN_kept hW)).mono fun _ _ ⟨h, h'⟩ => ⟨h, h' ▸ hW⟩))
  obtain ⟨a, cap, rfl⟩ := hv.form
  by_cases h64 : zs.length ≤ 64
  · have h : ¬ 64 < zs.length := by omega
    have hn : Hid ((!zs.any fun x => !Ar.inB 0 x g) = Vm.okI zs g) := Lib.hid (by rw [Vm.not_anyI, Vm.okI_short h64, Bool.not_not])
    clear hv
    unfold boxN at C B
    go_enter Tryd.func62, Tryd.ntmps62
    go_wp2_with fail
    refine C.out.mono ?_
    rintro e w1 ⟨rfl, b1⟩
    generalize (zs.any fun x => !Ar.inB 0 x g) = t at *
    have HB := Lib.hid (bt B.out b1)
    clear b1
    go_wp2_with fail
    go_ret
    exact ⟨ret_bool hn.out, HB.out⟩
  · have h : 64 < zs.length := by omega
    have hn := Lib.hid (Vm.okI_long (g := g) h64)
    clear hv C
    unfold boxN at B
    go_enter Tryd.func62, Tryd.ntmps62
    go_wp2_with fail
    go_ret
    exact ⟨ret_bool hn.out.symm, B.out⟩
/-! ### differences -/
/-- a row of the call's own that is not empty, opened -/
theorem own_open {B : Nat} {w : World} {v : Value} {zs : List Int} (h : Own B w v zs) (hn : 0 < zs.length) :
    ∃ g cap, v = .slice (some ⟨g, 0, none⟩) zs.length cap ∧ B ≤ g ∧ g < w.heap.size ∧ zs.length ≤ cap ∧ cap ≤ maxLen ∧ ∀ j (hj : j < zs.length), w.cell? ⟨g, j, none⟩ = some (.int .i64 zs[j]) := by
  have h0 := h
  rcases h.2 with ⟨_, hz⟩ | ⟨g, cap, cur, rfl, hbg, hh, hnc, hcm, hs, ht⟩
  · omega
  · refine ⟨g, cap, rfl, hbg, ?_, hnc, hcm, fun j hj => ?_⟩
    · rcases Nat.lt_or_ge g w.heap.size with h' | h'
      · exact h'
      · rw [Array.getElem?_eq_none h'] at hh; cases hh
    · rw [World.ownsRow.cellAt h0 j (by omega)]
      exact iv_at (List.getElem?_eq_getElem hj)
set_option maxHeartbeats 3200000 in
theorem increases_any (f : Nat → Int) (n B : Nat) (w : World) (v : Value) (zs : List Int) (hz : zs.length = n + 1) (hf : ∀ k (h : k < zs.length), zs[k] = f k) (hb : ∀ k, k ≤ n → -1000000000 ≤ f k ∧ f k ≤ 1000000000) (hv : Own B w v zs) (hl : n ≤ 1000) :
    Calls Tryd.prog 55 #[v] w (RV1 w (Vm.dfs f n)) := by
  obtain ⟨i0, hi, hz0, hz1, hz2⟩ := info_parts info_i64
  obtain ⟨g, cap, rfl, hbg, hgl, hnc, hcm, hcc⟩ := own_open hv (by omega)
  have HC : Hid (∀ k, k ≤ n → w.cell? ⟨g, k, none⟩ = some (.int .i64 (f k))) := Lib.hid (fun k hk => by rw [hcc k (by omega), hf k (by omega)])
  have HB := Lib.hid hb
  have hcm' : cap ≤ 9223372036854775807 := by unfold maxLen at hcm; omega
  rw [hz] at hnc ⊢
  clear hcc hf hv hb hz hcm
  have h1 : (1 : Int) ≤ ((n + 1 : Nat) : Int) := by omega
  have h2 : ((n + 1 : Nat) : Int) ≤ (cap : Int) := by omega
  go_enter Tryd.func55, Tryd.ntmps55
  go_wp2_with (at_make; refine wpList_make_own _ rfl _ _ 27 rfl w.heap.size 2 i0 (.int .i64 0) 1 Tryd.underlying27 hi hz0 hz1 .i64 .i64 _ n rfl rfl rfl ?c1 ?c2 ?c3 ?_)
  case c1 => rw [hz2]; omega
  case c2 => unfold maxLen; omega
  case c3 => exact Nat.le_refl _
  intro w1 hown hg
  have O1 : Hid (Own w.heap.size w1 _ (Vm.dfs f 0)) := Lib.hid hown
  have B1 := Lib.hid ((Below.refl w.heap.size w).grown hg (Nat.le_refl _) (fun k hk => by cases hk))
  clear hown hg
  have hn1 : n + 1 - 1 = n := by omega
  go_wp2
  all_goals (
    go_loopw [3, 13] (fun u i wr => ∃ (k : Nat), k ≤ n ∧ i = .int .i64 k ∧ Hid (Own w.heap.size wr u (Vm.dfs f k)) ∧ Hid (Below w.heap.size w wr)) (fun _ i _ => n - (intOf i).toNat)
    case atStart => exact ⟨0, Nat.zero_le _, rfl, O1, B1⟩
    case round =>
      obtain ⟨k, hk, rfl, ho, hbw⟩ := hrel
      by_cases hlt : k < n
      · first
        | (exfalso; omega)
        | (have hltz : (k : Int) < (n : Int) := by omega
           have c1 : wr.cell? ⟨g, 1 + k, none⟩ = some (.int .i64 (f (k + 1))) := by rw [hbw.out.cell hgl, Nat.add_comm]; exact HC.out (k + 1) (by omega)
           have c0 : wr.cell? ⟨g, k, none⟩ = some (.int .i64 (f k)) := by rw [hbw.out.cell hgl]; exact HC.out k (by omega)
           obtain ⟨u1, u2⟩ := HB.out k (by omega)
           obtain ⟨u3, u4⟩ := HB.out (k + 1) (by omega)
           have hw : Hid (Vm.dfs f k ++ [f (k + 1) - f k] = Vm.dfs f (k + 1)) := Lib.hid (Vm.dfs_succ f k).symm
           have hlen := Vm.dfs_length f k
           generalize f (k + 1) = y at *
           generalize f k = z at *
           have O2 := Lib.hid ho.out
           have B2 := Lib.hid hbw.out
           clear ho hbw
           go_wp2_with (at_builtin; refine wpList_append_own _ rfl _ _ 27 rfl w.heap.size 2 i0 (.int .i64 0) 1 8 Tryd.underlying27 hi hz0 hz1 hz2 rfl (by decide) _ _ _ rfl (own_belowAll O2.out ((Below.refl _ _).alloc (Nat.le_refl _) _)) ⟨wr.heap.size, 0, none⟩ 1 1 [.int .i64 (y - z)] rfl rfl (row_new _ [_] _) (iv_cell [y - z]) ?c3 ?c4 ?c5 ?_)
           case c3 => unfold maxLen; omega
           case c4 => omega
           case c5 => have := B2.out.size; first | omega | (simp; omega)
           intro v' w3 hown' hgrow _
           have hnx : Hid (Own w.heap.size w3 v' (Vm.dfs f (k + 1))) := Lib.hid (by rw [← hw.out]; unfold Own; rw [iv_append, List.length_append, hlen]; exact hown')
           have hnb : Hid (Below w.heap.size w w3) := Lib.hid ((B2.out.alloc B2.out.size _).grown hgrow (by have := B2.out.size; simp; omega) (fun j hj => (O2.out.lt j hj).1))
           clear hown' hgrow O2 B2 hw
           go_wp2
           exact ⟨⟨k + 1, by omega, by go_num, hnx, hnb⟩, by simp only [intOf]; omega⟩)
      · have hltz : ¬ (k : Int) < (n : Int) := by omega
        have hkn : k = n := by omega
        rw [hkn] at ho
        clear hkn
        go_wp2
        go_ret
        exact ⟨_, rfl, ho.out, hbw.out⟩)
end Go.Proofs.YtobcflcmlejajaaDoor

/-
  SplitTonnes (chapter 12), by the model and by the program. No condition of its own.
-/
import Derived.Test.YtobcflcmlejajaaDoorVoH
namespace Go.Proofs.YtobcflcmlejajaaDoor
open Go.RowKit Go.Shelf
set_option linter.unusedVariables false
set_option maxRecDepth 100000

namespace Vm
/-- what the first ones are given, for none, one, .. k of them -/
def sps (t : Int) (zs : List Int) (k : Nat) : List Int := (List.range (k + 1)).map (sp t zs)
theorem sps_len (t : Int) (zs : List Int) (k : Nat) : (sps t zs k).length = k + 1 := by unfold sps; simp
theorem sps_0 {t : Int} {zs : List Int} (h : 0 < zs.sum) : sps t zs 0 = [0] := by unfold sps; simp [sp_0 (t := t) h]
theorem sps_succ (t : Int) (zs : List Int) (k : Nat) : sps t zs (k + 1) = sps t zs k ++ [sp t zs (k + 1)] := by unfold sps; rw [List.range_succ (n := k + 1), List.map_append]; rfl
theorem sps_at? (t : Int) (zs : List Int) {k n : Nat} (h : k < n + 1) : (sps t zs n)[k]? = some (sp t zs k) := by unfold sps; simp [h]
theorem sps_at {t : Int} {zs : List Int} {k n : Nat} (h : k < (sps t zs n).length) : (sps t zs n)[k] = sp t zs k :=
  Option.some.inj ((List.getElem?_eq_getElem h).symm.trans (sps_at? t zs (by rw [sps_len] at h; exact h)))
theorem sp_bd {t : Int} {zs : List Int} (t1 : 0 ≤ t) (t2 : t ≤ 100000000) (h : ∀ k (hk : k < zs.length), 0 ≤ zs[k] ∧ zs[k] ≤ 1000) (hs : 0 < zs.sum) {k : Nat} (hk : k ≤ zs.length) : 0 ≤ sp t zs k ∧ sp t zs k ≤ 100000000 := by
  have h1 := sk_bd h k hk
  have h2 := sk_le h hk (Nat.le_refl _)
  rw [sk_all] at h2
  unfold sp
  exact ⟨dr_nn (Int.mul_nonneg t1 h1.1) hs, dr_le (Int.mul_nonneg t1 h1.1) hs (Int.mul_le_mul t2 h2 h1.1 (by omega))⟩
theorem sp_bad {t : Int} {zs : List Int} (h : ton t = false ∨ okI zs 1000 = false) : spL t zs = [] ∧ 2 = spC t zs := by
  have e : (ton t && okI zs 1000) = false := by rcases h with h | h <;> rw [h] <;> simp
  unfold spL spC; rw [e]; exact ⟨rfl, rfl⟩
theorem sp_zero {t : Int} {zs : List Int} (h1 : ton t = true) (h2 : okI zs 1000 = true) (h0 : zs.sum = 0) : spL t zs = [] ∧ 6 = spC t zs := by
  unfold spL spC; rw [h1, h2, h0]; exact ⟨rfl, rfl⟩
theorem sp_good {t : Int} {zs : List Int} (h1 : ton t = true) (h2 : okI zs 1000 = true) (h0 : ¬ zs.sum = 0) : spL t zs = dfs (sp t zs) zs.length ∧ 0 = spC t zs := by
  unfold spL spC; rw [h1, h2, if_neg h0, if_neg h0]; exact ⟨rfl, rfl⟩
theorem mul_sk {t z : Int} (t1 : 0 ≤ t) (t2 : t ≤ 100000000) (z1 : 0 ≤ z) (z2 : z ≤ 64000) : 0 ≤ t * z ∧ t * z ≤ 6400000000000 := by
  have := Int.mul_le_mul t2 z2 z1 (by omega : (0 : Int) ≤ 100000000)
  exact ⟨Int.mul_nonneg t1 z1, by omega⟩
end Vm
set_option maxHeartbeats 6400000 in
theorem implSplitTonnes_any (w : World) (t : Int) (v : Value) (zs : List Int) (hv : Sl w v zs) (hl : zs.length ≤ 1048576) :
    Calls Tryd.prog 38 #[.int .i64 t, v] w (RVs w (Vm.spL t zs) (Vm.spC t zs)) := by
  obtain ⟨i0, hi0, hz0, hz1, hz2⟩ := info_parts info_i64
  have T := fun W => Lib.hid (isTonnes_any2 t W)
  have S := Lib.hid (isShortList_any w v zs 1000 hv hl)
  have U := Lib.hid (fun (h : Vm.okI zs 1000 = true) W (hb : Below w.heap.size w W) => sumI_any W v zs (Vm.okI_of h).1 (hv.below hb) (fun k hk => by have := (Vm.okI_of h).2 k hk; omega))
  obtain ⟨a, cap, rfl⟩ := hv.form
  have HV := Lib.hid hv
  clear hv
  rcases in_cases 0 t 100000000 with ⟨t1, t2, hi⟩ | ⟨hn, hi⟩
  · have HI : Hid (Vm.ton t = true) := Lib.hid hi
    rw [hi] at T
    clear hi
    cases hq : Vm.okI zs 1000 with
    | false =>
      have HQ := Lib.hid hq
      rw [hq] at S
      clear hq U
      go_enter Tryd.func38, Tryd.ntmps38
      go_wp2_with fail
      refine (T _).out.mono ?_
      rintro e w1 ⟨rfl, rfl⟩
      go_wp2_with fail
      refine S.out.mono ?_
      rintro e w1 ⟨rfl, b1⟩
      have B1 := Lib.hid b1
      clear b1
      go_wp2_with fail
      go_ret2
      exact RVs.yes (Vm.sp_bad (Or.inr HQ.out)).1 (Vm.sp_bad (Or.inr HQ.out)).2 (World.ownsRow_nil _ _ _ _) B1.out
    | true =>
      have HW := Lib.hid (Vm.okI_of hq).2
      have h64 := (Vm.okI_of hq).1
      have U := Lib.hid (U.out hq)
      have hsb := Vm.sk_bd HW.out zs.length (Nat.le_refl _)
      rw [Vm.sk_all] at hsb
      obtain ⟨s1, s2⟩ := hsb
      have HQ := Lib.hid hq
      rw [hq] at S
      clear hq
      have hsum : Hid (zs.sum = zs.sum) := Lib.hid rfl
      obtain ⟨z, hz⟩ : ∃ z, zs.sum = z := ⟨_, rfl⟩
      have hz' := Lib.hid hz
      rw [hz] at U s1 s2
      clear hsum hz
      by_cases h0 : z = 0
      · subst h0
        go_enter Tryd.func38, Tryd.ntmps38
        go_wp2_with fail
        refine (T _).out.mono ?_
        rintro e w1 ⟨rfl, rfl⟩
        go_wp2_with fail
        refine S.out.mono ?_
        rintro e w1 ⟨rfl, b1⟩
        have B1 := Lib.hid b1
        clear b1
        go_wp2_with fail
        refine (U.out _ B1.out).mono ?_
        rintro e w2 ⟨rfl, rfl⟩
        go_wp2_with fail
        go_ret2
        exact RVs.yes (Vm.sp_zero HI.out HQ.out hz'.out).1 (Vm.sp_zero HI.out HQ.out hz'.out).2 (World.ownsRow_nil _ _ _ _) B1.out
      · have h0b : (z == 0) = false := beq_eq_false_iff_ne.2 h0
        have hne : Hid (¬ zs.sum = 0) := Lib.hid (by rw [hz'.out]; exact h0)
        have z0 : 0 < z := by omega
        clear h0
        go_enter Tryd.func38, Tryd.ntmps38
        go_wp2_with fail
        refine (T _).out.mono ?_
        rintro e w1 ⟨rfl, rfl⟩
        go_wp2_with fail
        refine S.out.mono ?_
        rintro e w1 ⟨rfl, b1⟩
        have B1 := Lib.hid b1
        clear b1
        go_wp2_with fail
        refine (U.out _ B1.out).mono ?_
        rintro e w2 ⟨rfl, rfl⟩
        have BA := Lib.hid (B1.out.alloc B1.out.size (.cells #[.int .i64 0] 2))
        have O1 : Hid (Own w.heap.size (w1.alloc (.cells #[.int .i64 0] 2)) (.slice (some ⟨w1.heap.size, 0, none⟩) 1 1) (Vm.sps t zs 0)) := Lib.hid (by
          rw [Vm.sps_0 (show 0 < zs.sum by rw [hz'.out]; exact z0)]
          exact World.ownsRow_lit _ _ _ B1.out.size (by decide) (by decide))
        clear U S T
        go_wp2_with fail
        go_loopw [7, 8, 26] (fun s u i wr => ∃ (k : Nat) (x : Int), k ≤ zs.length ∧ i = .int .i64 k ∧ s = .int .i64 x ∧ 0 ≤ x ∧ x ≤ 1000 * k ∧ Hid (x = Vm.sk zs k) ∧ Hid (Own w.heap.size wr u (Vm.sps t zs k)) ∧ Hid (Below w.heap.size w wr)) (fun _ _ i _ => zs.length - (intOf i).toNat)
        case atStart => exact ⟨0, 0, Nat.zero_le _, rfl, rfl, by omega, by omega, Lib.hid rfl, O1, BA⟩
        case round =>
          obtain ⟨k, x, hk, rfl, rfl, x1, x2, hx, ho, hbw⟩ := hrel
          by_cases hlt : k < zs.length
          · have hltz : (k : Int) < (zs.length : Int) := by omega
            obtain ⟨b', off, cap1, hn, hbl, hcc⟩ := (HV.out.below hbw.out).atI hlt
            simp only [Value.slice.injEq] at hn
            obtain ⟨rfl, -, rfl⟩ := hn
            have k1 := hcc k hlt
            obtain ⟨m1, m2⟩ := HW.out k hlt
            have hs := Lib.hid (Vm.sk_succ hlt)
            have hq : Hid (Ar.dr (t * (x + zs[k])) z = Vm.sp t zs (k + 1)) := Lib.hid (by rw [hx.out, ← hs.out, ← hz'.out]; rfl)
            have hx' : Hid (x + zs[k] = Vm.sk zs (k + 1)) := Lib.hid (by rw [hs.out, hx.out])
            have hlen := Vm.sps_len t zs k
            have hw : Hid (Vm.sps t zs k ++ [Vm.sp t zs (k + 1)] = Vm.sps t zs (k + 1)) := Lib.hid (Vm.sps_succ t zs k).symm
            clear hcc hx hs
            generalize zs[k] = c at *
            obtain ⟨g1, g2⟩ := Vm.mul_sk t1 t2 (show 0 ≤ x + c by omega) (by omega)
            have CD := Lib.hid (fun W => nearest_any (t * (x + c)) z W (by omega) (by omega) (by omega) (by omega) (Or.inr z0))
            rw [hq.out] at CD
            generalize Vm.sp t zs (k + 1) = r at *
            clear hq
            go_wp2_with fail
            refine (CD.out _).mono ?_
            rintro e w' ⟨rfl, rfl⟩
            have O2 := Lib.hid ho.out
            have B2 := Lib.hid hbw.out
            clear ho hbw CD
            go_wp2_with (at_builtin; refine wpList_append_own _ rfl _ _ 27 rfl w.heap.size 2 i0 (.int .i64 0) 1 8 Tryd.underlying27 hi0 hz0 hz1 hz2 rfl (by decide) _ _ _ rfl (own_belowAll O2.out ((Below.refl _ _).alloc (Nat.le_refl _) _)) ⟨wr.heap.size, 0, none⟩ 1 1 [.int .i64 r] rfl rfl (row_new _ [_] _) (iv_cell [r]) ?c3 ?c4 ?c5 ?_)
            case c3 => unfold maxLen; omega
            case c4 => omega
            case c5 => have := B2.out.size; first | omega | (simp; omega)
            intro v' w3 hown' hgrow _
            have hnx : Hid (Own w.heap.size w3 v' (Vm.sps t zs (k + 1))) := Lib.hid (by rw [← hw.out]; unfold Own; rw [iv_append, List.length_append, hlen]; exact hown')
            have hnb : Hid (Below w.heap.size w w3) := Lib.hid ((B2.out.alloc B2.out.size _).grown hgrow (by have := B2.out.size; simp; omega) (fun j hj => (O2.out.lt j hj).1))
            clear hown' hgrow O2 B2 hw
            go_wp2
            exact ⟨⟨k + 1, x + c, by omega, by go_num, rfl, by omega, by omega, hx', hnx, hnb⟩, by simp only [intOf]; omega⟩
          · have hltz : ¬ (k : Int) < (zs.length : Int) := by omega
            have hkz : k = zs.length := by omega
            rw [hkz] at ho
            have CI := Lib.hid (increases_any (Vm.sp t zs) zs.length w.heap.size wr _ (Vm.sps t zs zs.length) (Vm.sps_len _ _ _) (fun k hk => Vm.sps_at hk) (fun k hk => by
              have := Vm.sp_bd t1 t2 HW.out (show 0 < zs.sum by rw [hz'.out]; exact z0) hk; omega) ho.out (by omega))
            clear hkz hx
            go_wp2_with fail
            refine CI.out.mono ?_
            rintro e w3 ⟨u, rfl, o3, b3⟩
            have O3 : Hid (Own w.heap.size w3 u (Vm.dfs (Vm.sp t zs) zs.length)) := Lib.hid (Go.Joins.ownsRow_le o3 hbw.out.size)
            have B3 := Lib.hid (bt hbw.out b3)
            clear o3 b3 CI
            go_wp2_with fail
            go_ret2
            exact RVs.yes (Vm.sp_good HI.out HQ.out hne.out).1 (Vm.sp_good HI.out HQ.out hne.out).2 O3.out B3.out
  · have HI : Hid (Vm.ton t = false) := Lib.hid hi
    rw [hi] at T
    clear hi hn
    go_enter Tryd.func38, Tryd.ntmps38
    go_wp2_with fail
    refine (T _).out.mono ?_
    rintro e w1 ⟨rfl, rfl⟩
    go_wp2_with fail
    go_ret2
    exact RVs.yes (Vm.sp_bad (Or.inl HI.out)).1 (Vm.sp_bad (Or.inl HI.out)).2 (World.ownsRow_nil _ _ _ _) (Below.refl _ _)
end Go.Proofs.YtobcflcmlejajaaDoor

/-
  JoinTonnes (chapter 12), by the model and by the program. The conditions, of the program's side: the table sizeLimits holds what its text lays, and the variable errTooGreat holds a sentinel as errors.New makes it.
-/
import Derived.Test.YtobcflcmlejajaaDoorVoK
import Derived.OwnWalk
namespace Go.Proofs.YtobcflcmlejajaaDoor
open Go.RowKit Go.Shelf
set_option linter.unusedVariables false
set_option maxRecDepth 100000

namespace Vm
theorem jt_bad {zs : List Int} (h : okI zs 100000000 = false) : jtV zs = 0 ∧ jtK zs = 0 ∧ jtC zs = 2 := by unfold jtV jtK jtC; rw [h]; exact ⟨rfl, rfl, rfl⟩
theorem jt_great {zs : List Int} (h : okI zs 100000000 = true) (hs : ¬ zs.sum ≤ 100000000) : jtV zs = 0 ∧ jtK zs = 0 ∧ jtC zs = 6 := by
  unfold jtV jtK jtC; rw [h, if_pos rfl, if_pos rfl, if_pos rfl, if_neg hs, if_neg hs, if_neg hs]; exact ⟨rfl, rfl, rfl⟩
theorem jt_ok {zs : List Int} (h : okI zs 100000000 = true) (hs : zs.sum ≤ 100000000) : jtV zs = zs.sum ∧ jtK zs = cls zs.sum ∧ jtC zs = 0 := by
  unfold jtV jtK jtC; rw [h, if_pos rfl, if_pos rfl, if_pos rfl, if_pos hs, if_pos hs, if_pos hs]; exact ⟨rfl, rfl, rfl⟩
theorem okI_sum {zs : List Int} (h : okI zs 100000000 = true) : 0 ≤ zs.sum := by
  have := sk_bd (okI_of h).2 zs.length (Nat.le_refl _)
  rw [sk_all] at this; exact this.1
end Vm
theorem ret_3j {a b c a' b' c' : Int} (h : a = a' ∧ b = b' ∧ c = c') : Ending.returned (.tuple #[.int .i64 a', .int .i64 b', .int .i64 c']) = .returned (.tuple #[.int .i64 a, .int .i64 b, .int .i64 c]) := by
  rw [h.1, h.2.1, h.2.2]
set_option maxHeartbeats 3200000 in
theorem specJoinTonnes_any (w : World) (v : Value) (zs : List Int) (hv : Sl w v zs) (hl : zs.length ≤ 1048576) :
    Calls Tryd.prog 27 #[v] w fun e w' => e = .returned (.tuple #[.int .i64 (Vm.jtV zs), .int .i64 (Vm.jtK zs), .int .i64 (Vm.jtC zs)]) ∧ Below w.heap.size w w' := by
  obtain ⟨a, cap, rfl⟩ := hv.form
  have HV := Lib.hid hv
  clear hv
  by_cases h64 : zs.length ≤ 64
  · have h64' : ¬ 64 < zs.length := by omega
    have HA : Hid ((∀ k (hk : k < zs.length), Ar.inB 0 zs[k] 100000000 = true) → Vm.okI zs 100000000 = true) := Lib.hid (fun h => by
      rw [Vm.okI_short h64, List.all_eq_true]
      intro x hx
      obtain ⟨j, hj, rfl⟩ := List.getElem_of_mem hx
      exact h j hj)
    go_enter Tryd.func27, Tryd.ntmps27
    go_wp2_with fail
    go_loop [5, 6] (fun s i => ∃ (k : Nat) (z : Int), k ≤ zs.length ∧ i = .int .i64 k ∧ s = .int .i64 z ∧ 0 ≤ z ∧ z ≤ 100000000 * k ∧ Hid (z = Vm.sk zs k) ∧ Hid (∀ j (hj : j < zs.length), j < k → Ar.inB 0 zs[j] 100000000 = true)) (fun _ i => zs.length - (intOf i).toNat)
    case atStart => exact ⟨0, 0, Nat.zero_le _, rfl, rfl, by omega, by omega, Lib.hid rfl, Lib.hid (fun j _ h => absurd h (Nat.not_lt_zero _))⟩
    case round =>
      obtain ⟨k, z, hk, rfl, rfl, z1, z2, hz, hp⟩ := hrel
      by_cases hlt : k < zs.length
      · have hltz : (k : Int) < (zs.length : Int) := by omega
        obtain ⟨b', off, cap1, hn, hbl, hcc⟩ := HV.out.atI hlt
        simp only [Value.slice.injEq] at hn
        obtain ⟨rfl, -, rfl⟩ := hn
        have k1 := hcc k hlt
        have hs := Lib.hid (Vm.sk_succ hlt)
        clear hcc
        rcases in_cases 0 zs[k] 100000000 with ⟨m1, m2, hi⟩ | ⟨hn, hi⟩
        · have hp' : Hid (∀ j (hj : j < zs.length), j < k + 1 → Ar.inB 0 zs[j] 100000000 = true) := Lib.hid (fun j hj h => by
            by_cases e : j = k
            · subst e; exact hi
            · exact hp.out j hj (by omega))
          generalize zs[k] = y at *
          clear hp
          go_wp2_with (go_at_call 47; refine (l12Tonnes_any2 _ _).mono ?_; rintro e w' ⟨rfl, rfl⟩)
          exact ⟨⟨k + 1, z + y, by omega, by go_num, rfl, by omega, by omega, Lib.hid (by rw [hs.out, hz.out]), hp'⟩, by simp only [intOf]; omega⟩
        · have hb := Lib.hid (Vm.jt_bad (Vm.okI_bad hlt hi))
          generalize zs[k] = y at *
          clear hn hp
          go_wp2_with (go_at_call 47; refine (l12Tonnes_any2 _ _).mono ?_; rintro e w' ⟨rfl, rfl⟩)
          go_ret3
          exact ⟨ret_3j hb.out, Below.refl _ _⟩
      · have hkz : k = zs.length := by omega
        have hok := HA.out (fun j hj => hp.out j hj (by omega))
        have hsum : z = zs.sum := by rw [hz.out, hkz, Vm.sk_all]
        have hltz : ¬ (k : Int) < (zs.length : Int) := by omega
        rcases in_cases 0 z 100000000 with ⟨m1, m2, hi⟩ | ⟨hn, hi⟩
        · have HR : Hid (Vm.jtV zs = z ∧ Vm.jtK zs = Vm.cls z ∧ Vm.jtC zs = 0) := Lib.hid (by rw [hsum]; exact Vm.jt_ok hok (by omega))
          clear hkz hp hz hok hsum HA
          go_wp2_with (first | (go_at_call 47; refine (l12Tonnes_any2 _ _).mono ?_; rintro e w' ⟨rfl, rfl⟩) | (go_at_call 48; refine (l12Class_any _ _).mono ?_; rintro e w' ⟨rfl, rfl⟩))
          go_ret3
          exact ⟨ret_3j HR.out, Below.refl _ _⟩
        · have HR := Lib.hid (Vm.jt_great hok (by rw [← hsum]; omega))
          clear hkz hp hz hok hsum HA hn
          go_wp2_with (first | (go_at_call 47; refine (l12Tonnes_any2 _ _).mono ?_; rintro e w' ⟨rfl, rfl⟩))
          go_ret3
          exact ⟨ret_3j HR.out, Below.refl _ _⟩
  · have h64' : 64 < zs.length := by omega
    have HR := Lib.hid (Vm.jt_bad (Vm.okI_long (g := 100000000) h64))
    go_enter Tryd.func27, Tryd.ntmps27
    go_wp2_with fail
    go_ret3
    exact ⟨ret_3j HR.out, Below.refl _ _⟩
set_option maxHeartbeats 3200000 in
theorem implJoinTonnes_any {a : Addr} (w : World) (v : Value) (zs : List Int) (hv : Sl w v zs) (hl : zs.length ≤ 1048576) (hT : Tg a w ∧ Lm w) :
    Calls Tryd.prog 29 #[v] w fun e w' => e = .returned (.tuple #[.int .i64 (Vm.jtV zs), .int .i64 (Vm.jtK zs), .int .i64 (Vm.jtC zs)]) ∧ Below w.heap.size w w' := by
  have S := Lib.hid (isShortList_any w v zs 100000000 hv hl)
  have J := Lib.hid (fun (h : Vm.okI zs 100000000 = true) W (hb : Below w.heap.size w W) => joined_any a W v zs (Vm.okI_of h).1 (hv.below hb) (fun k hk => by have := (Vm.okI_of h).2 k hk; omega) (hT.1.below hb))
  have HT := Lib.hid hT.1
  have HL := Lib.hid hT.2
  obtain ⟨a', cap, rfl⟩ := hv.form
  clear hv hT
  cases hq : Vm.okI zs 100000000 with
  | false =>
    have HR := Lib.hid (Vm.jt_bad hq)
    rw [hq] at S
    clear hq J
    go_enter Tryd.func29, Tryd.ntmps29
    go_wp2_with fail
    refine S.out.mono ?_
    rintro e w1 ⟨rfl, b1⟩
    have B1 := Lib.hid b1
    clear b1
    go_wp2_with fail
    go_ret3
    exact ⟨ret_3j HR.out, B1.out⟩
  | true =>
    have J := Lib.hid (J.out hq)
    have hs0 := Vm.okI_sum hq
    rw [hq] at S
    by_cases hs : zs.sum ≤ 100000000
    · have HR := Lib.hid (Vm.jt_ok hq hs)
      have hsz := Vm.sz_t (Ar.inB_t hs0 hs)
      have Z := Lib.hid (fun W (h : Lm W) => implSizeClass_any zs.sum W h)
      rw [hsz.1, hsz.2] at Z
      clear hq hsz
      generalize Vm.cls zs.sum = c at *
      generalize zs.sum = s at *
      go_enter Tryd.func29, Tryd.ntmps29
      go_wp2_with fail
      refine S.out.mono ?_
      rintro e w1 ⟨rfl, b1⟩
      have B1 := Lib.hid b1
      clear b1
      go_wp2_with fail
      refine (J.out _ B1.out).mono ?_
      rintro e w2 ⟨he, q, rfl⟩
      rcases he with ⟨_, rfl⟩ | ⟨hno, _⟩
      case inr => exfalso; omega
      have B2 := Lib.hid (bt B1.out (below_drewW _ q))
      generalize w1.drewN q = w2 at *
      have E := Lib.hid (massCode_nil a w2 (HT.out.below B2.out))
      go_wp2_with fail
      refine E.out.mono ?_
      rintro e w' ⟨rfl, rfl⟩
      go_wp2_with fail
      refine (Z.out _ (HL.out.below B2.out)).mono ?_
      rintro e w3 ⟨rfl, b3⟩
      have B3 := Lib.hid (bt B2.out b3)
      clear b3
      go_wp2_with fail
      go_ret3
      exact ⟨ret_3j HR.out, B3.out⟩
    · have HR := Lib.hid (Vm.jt_great hq hs)
      clear hq
      generalize zs.sum = s at *
      go_enter Tryd.func29, Tryd.ntmps29
      go_wp2_with fail
      refine S.out.mono ?_
      rintro e w1 ⟨rfl, b1⟩
      have B1 := Lib.hid b1
      clear b1
      go_wp2_with fail
      refine (J.out _ B1.out).mono ?_
      rintro e w2 ⟨he, q, rfl⟩
      rcases he with ⟨hyes, _⟩ | ⟨_, rfl⟩
      case inl => exfalso; omega
      have B2 := Lib.hid (bt B1.out (below_drewW _ q))
      generalize w1.drewN q = w2 at *
      have E := Lib.hid (massCode_err a w2 (HT.out.below B2.out))
      go_wp2_with fail
      refine E.out.mono ?_
      rintro e w' ⟨rfl, rfl⟩
      go_wp2_with fail
      go_ret3
      exact ⟨ret_3j HR.out, B2.out⟩
end Go.Proofs.YtobcflcmlejajaaDoor

/-
  Lists of masses: whether they are as stated, and their sum; by the model (chapter 13). No condition of its own.
-/
import Derived.Test.YtaldmdammipfjaaTrC
import Derived.Test.YtaldmdammipfjaaRlB
import Derived.Test.YtaldmdammipfjaaFdC
namespace Go.Proofs.Ytaldmdammipfjaa
open Go.RowKit Go.Shelf Go.Deep
set_option linter.unusedVariables false
set_option maxRecDepth 100000
namespace Ms
def okI (zs : List Int) (g : Int) : Bool := decide (zs.length ≤ 64) && zs.all fun z => Ar.inB 0 z g
theorem okI_of {zs : List Int} {g : Int} (h : okI zs g = true) : zs.length ≤ 64 ∧ ∀ k (hk : k < zs.length), 0 ≤ zs[k] ∧ zs[k] ≤ g := by
  unfold okI at h
  rw [Bool.and_eq_true, decide_eq_true_eq, List.all_eq_true] at h
  exact ⟨h.1, fun k hk => Gw.inB_iff.1 (h.2 _ (List.getElem_mem hk))⟩
theorem okI_long {zs : List Int} {g : Int} (h : ¬ zs.length ≤ 64) : okI zs g = false := by unfold okI; rw [decide_eq_false h]; rfl
theorem okI_short {zs : List Int} {g : Int} (h : zs.length ≤ 64) : okI zs g = zs.all fun z => Ar.inB 0 z g := by unfold okI; rw [decide_eq_true h]; rfl
theorem not_anyI (zs : List Int) (g : Int) : (zs.any fun z => !Ar.inB 0 z g) = !(zs.all fun z => Ar.inB 0 z g) := by
  induction zs with
  | nil => rfl
  | cons z zs ih => rw [List.any_cons, List.all_cons, ih, Bool.not_and]
/-- is there a mass for each of n cells? -/
def okM (ms : List Int) (n : Nat) : Bool := decide (ms.length = n) && ms.all fun z => Ar.inB 0 z 1000000
theorem all_snoc {ms : List Int} {k : Nat} (h : k < ms.length) (h1 : (ms.take k).all (fun z => Ar.inB 0 z 1000000) = true) (h2 : Ar.inB 0 ms[k] 1000000 = true) : (ms.take (k + 1)).all (fun z => Ar.inB 0 z 1000000) = true := by
  rw [List.take_succ_eq_append_getElem h, List.all_append, h1]; simp [h2]
theorem okM_bad {ms : List Int} {k n : Nat} (h : k < ms.length) (h2 : Ar.inB 0 ms[k] 1000000 = false) : okM ms n = false := by
  unfold okM
  have : (ms.all fun z => Ar.inB 0 z 1000000) = false := by
    rw [List.all_eq_false]; exact ⟨_, List.getElem_mem h, by rw [h2]; decide⟩
  rw [this, Bool.and_false]
theorem sum_take {ms : List Int} {k : Nat} (h : k < ms.length) : (ms.take (k + 1)).sum = (ms.take k).sum + ms[k] := by
  rw [List.take_succ_eq_append_getElem h, List.sum_append_int]; simp
theorem okM_of {ms : List Int} {n : Nat} (h : okM ms n = true) : ms.length = n ∧ ∀ k (hk : k < ms.length), 0 ≤ ms[k] ∧ ms[k] ≤ 1000000 := by
  unfold okM at h
  rw [Bool.and_eq_true, decide_eq_true_eq, List.all_eq_true] at h
  exact ⟨h.1, fun k hk => Gw.inB_iff.1 (h.2 _ (List.getElem_mem hk))⟩
end Ms
set_option maxHeartbeats 3200000 in
theorem l13Masses_any (w : World) (b : Nat) (r c s : Int) (v u : Value) (zs ms : List Int) (hc : GC w b r c s v) (G : Gw.Good r c s zs) (hu : Sl w u ms) (hl : ms.length ≤ 1048576) :
    Calls Try.prog 46 #[.pointer (some ⟨b, 0, none⟩), u] w fun e w' => e = .returned (.bool (Ms.okM ms zs.length)) ∧ Below w.heap.size w w' := by
  obtain ⟨a, cap, rfl⟩ := hu.form
  have hlen := G.len
  have hrc : wrap64 (r * c) = (zs.length : Int) := by rw [← G.n]; exact IntWalk.wrap64_in _ ⟨by omega, by omega⟩
  have HU := Lib.hid hu
  have HC := Lib.hid hc
  clear hu hc G
  go_enter Try.func46, Try.ntmps46
  go_wp2
  go_loopw [5] (fun i wr => ∃ k : Nat, k ≤ ms.length ∧ i = .int .i64 (k : Int) ∧ Hid ((ms.take k).all (fun z => Ar.inB 0 z 1000000) = true) ∧ Hid (Below w.heap.size w wr)) (fun i _ => ms.length - (intOf i).toNat)
  case atStart => exact ⟨0, Nat.zero_le _, rfl, Lib.hid rfl, Lib.hid (Below.refl _ _)⟩
  case round =>
    obtain ⟨k, hk, rfl, hp, hb⟩ := hrel
    by_cases hlt : k < ms.length
    · have hltz : (k : Int) < (ms.length : Int) := by omega
      obtain ⟨b', off, cap1, hn, hbl, hcc⟩ := (HU.out.below hb.out).atI hlt
      simp only [Value.slice.injEq] at hn
      obtain ⟨rfl, -, rfl⟩ := hn
      have k1 := hcc k hlt
      have C := Lib.hid (fun W => l00In_any ms[k] 0 1000000 W)
      have HS := Lib.hid (fun h => Ms.all_snoc hlt hp.out h)
      have HN := Lib.hid (fun h => Ms.okM_bad (n := zs.length) hlt h)
      clear hcc
      generalize ms[k] = y at *
      cases hq : Ar.inB 0 y 1000000 with
      | true =>
        rw [hq] at C
        have HS' := Lib.hid (HS.out hq)
        clear hq HS HN
        go_wp2_with fail
        refine (C.out _).mono ?_
        rintro e w1 ⟨rfl, rfl⟩
        go_wp2_with fail
        exact ⟨⟨k + 1, by omega, by go_num, HS', hb⟩, by simp only [intOf]; omega⟩
      | false =>
        rw [hq] at C
        have HN' := Lib.hid (HN.out hq)
        clear hq HS HN
        go_wp2_with fail
        refine (C.out _).mono ?_
        rintro e w1 ⟨rfl, rfl⟩
        go_wp2_with fail
        go_ret
        exact ⟨ret_bool HN'.out.symm, hb.out⟩
    · have hltz : ¬ (k : Int) < (ms.length : Int) := by omega
      have hal : Hid (ms.all (fun z => Ar.inB 0 z 1000000) = true) := Lib.hid (by have := hp.out; rwa [List.take_of_length_le (by omega)] at this)
      have hok : Hid (((ms.length : Int) == (zs.length : Int)) = Ms.okM ms zs.length) := Lib.hid (by
        unfold Ms.okM
        rw [hal.out, Bool.and_true, Bool.eq_iff_iff, beq_iff_eq, decide_eq_true_eq]; omega)
      obtain ⟨x0, x1, x2, x3⟩ := (HC.out.all hb.out).four
      have hbl0 := (HC.out.all hb.out).lt
      go_wp2_with fail
      go_quiet (fail)
      go_wp2_with fail
      go_ret
      exact ⟨ret_bool hok.out, bt hb.out (below_drewW _ _)⟩
namespace Ms
/-- what TotalMass answers -/
def tmC (r c s : Int) (zs ms : List Int) : Int := odC (Gw.ok r c s zs) true (okM ms zs.length)
def tmV (r c s : Int) (zs ms : List Int) : Int := if (Gw.ok r c s zs && okM ms zs.length) = true then ms.sum else 0
end Ms
end Go.Proofs.Ytaldmdammipfjaa

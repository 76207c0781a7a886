/-
  Lists of masses: whether they are as stated, and their sum; by the model (chapter 13). No condition of its own.
-/
import Derived.Test.YthcmpalbhaefbaaTrC
import Derived.Test.YthcmpalbhaefbaaRlB
import Derived.Test.YthcmpalbhaefbaaFdC
namespace Go.Proofs.Ythcmpalbhaefbaa
open Go.RowKit Go.Shelf Go.Deep
set_option linter.unusedVariables false
set_option maxRecDepth 100000
namespace Ms
def okI (zs : List Int) (g : Int) : Bool := decide (zs.length ≤ 64) && zs.all fun z => Ar.inB 0 z g
theorem okI_of {zs : List Int} {g : Int} (h : okI zs g = true) : zs.length ≤ 64 ∧ ∀ k (hk : k < zs.length), 0 ≤ zs[k] ∧ zs[k] ≤ g := by
  unfold okI at h
  rw [Bool.and_eq_true, decide_eq_true_eq, List.all_eq_true] at h
  exact ⟨h.1, fun k hk => Gw.inB_iff.1 (h.2 _ (List.getElem_mem hk))⟩
theorem okI_long {zs : List Int} {g : Int} (h : ¬ zs.length ≤ 64) : okI zs g = false := by unfold okI; rw [decide_eq_false h]; rfl
theorem okI_short {zs : List Int} {g : Int} (h : zs.length ≤ 64) : okI zs g = zs.all fun z => Ar.inB 0 z g := by unfold okI; rw [decide_eq_true h]; rfl
theorem not_anyI (zs : List Int) (g : Int) : (zs.any fun z => !Ar.inB 0 z g) = !(zs.all fun z => Ar.inB 0 z g) := by
  induction zs with
  | nil => rfl
  | cons z zs ih => rw [List.any_cons, List.all_cons, ih, Bool.not_and]
/-- is there a mass for each of n cells? -/
def okM (ms : List Int) (n : Nat) : Bool := decide (ms.length = n) && ms.all fun z => Ar.inB 0 z 1000000
theorem all_snoc {ms : List Int} {k : Nat} (h : k < ms.length) (h1 : (ms.take k).all (fun z => Ar.inB 0 z 1000000) = true) (h2 : Ar.inB 0 ms[k] 1000000 = true) : (ms.take (k + 1)).all (fun z => Ar.inB 0 z 1000000) = true := by
  rw [List.take_succ_eq_append_getElem h, List.all_append, h1]; simp [h2]
theorem okM_bad {ms : List Int} {k n : Nat} (h : k < ms.length) (h2 : Ar.inB 0 ms[k] 1000000 = false) : okM ms n = false := by
  unfold okM
  have : (ms.all fun z => Ar.inB 0 z 1000000) = false := by
    rw [List.all_eq_false]; exact ⟨_, List.getElem_mem h, by rw [h2]; decide⟩
  rw [this, Bool.and_false]
theorem sum_take {ms : List Int} {k : Nat} (h : k < ms.length) : (ms.take (k + 1)).sum = (ms.take k).sum + ms[k] := by
  rw [List.take_succ_eq_append_getElem h, List.sum_append_int]; simp
theorem okM_of {ms : List Int} {n : Nat} (h : okM ms n = true) : ms.length = n ∧ ∀ k (hk : k < ms.length), 0 ≤ ms[k] ∧ ms[k] ≤ 1000000 := by
  unfold okM at h
  rw [Bool.and_eq_true, decide_eq_true_eq, List.all_eq_true] at h
  exact ⟨h.1, fun k hk => Gw.inB_iff.1 (h.2 _ (List.getElem_mem hk))⟩
end Ms
set_option maxHeartbeats 3200000 in
theorem l13Masses_any (w : World) (b : Nat) (r c s : Int) (v u : Value) (zs ms : List Int) (hc : GC w b r c s v) (G : Gw.Good r c s zs) (hu : Sl w u ms) (hl : ms.length ≤ 1048576) :
    Calls Try.prog 13 #[.pointer (some ⟨b, 0, none⟩), u] w fun e w' => e = .returned (.bool (Ms.okM ms zs.length)) ∧ Below w.heap.size w w' := by
  obtain ⟨a, cap, rfl⟩ := hu.form
  have hlen := G.len
  have hrc : wrap64 (r * c) = (zs.length : Int) := by rw [← G.n]; exact IntWalk.wrap64_in _ ⟨by omega, by omega⟩
  have HU := Lib.hid hu
  have HC := Lib.hid hc
  clear hu hc G
  go_enter Try.func13, Try.ntmps13
  go_wp2
  go_loopw [5] (fun i wr => ∃ k : Nat, k ≤ ms.length ∧ i = .int .i64 (k : Int) ∧ Hid ((ms.take k).all (fun z => Ar.inB 0 z 1000000) = true) ∧ Hid (Below w.heap.size w wr)) (fun i _ => ms.length - (intOf i).toNat)
  case atStart => exact ⟨0, Nat.zero_le _, rfl, Lib.hid rfl, Lib.hid (Below.refl _ _)⟩
  case round =>
    obtain ⟨k, hk, rfl, hp, hb⟩ := hrel
    by_cases hlt : k < ms.length
    · have hltz : (k : Int) < (ms.length : Int) := by omega
      obtain ⟨b', off, cap1, hn, hbl, hcc⟩ := (HU.out.below hb.out).atI hlt
      simp only [Value.slice.injEq] at hn
      obtain ⟨rfl, -, rfl⟩ := hn
      have k1 := hcc k hlt
      have C := Lib.hid (fun W => l00In_any ms[k] 0 1000000 W)
      have HS := Lib.hid (fun h => Ms.all_snoc hlt hp.out h)
      have HN := Lib.hid (fun h => Ms.okM_bad (n := zs.length) hlt h)
      clear hcc
      generalize ms[k] = y at *
      cases hq : Ar.inB 0 y 1000000 with
      | true =>
        rw [hq] at C
        have HS' := Lib.hid (HS.out hq)
        clear hq HS HN
        go_wp2_with fail
        refine (C.out _).mono ?_
        rintro e w1 ⟨rfl, rfl⟩
        go_wp2_with fail
        exact ⟨⟨k + 1, by omega, by go_num, HS', hb⟩, by simp only [intOf]; omega⟩
      | false =>
        rw [hq] at C
        have HN' := Lib.hid (HN.out hq)
        clear hq HS HN
        go_wp2_with fail
        refine (C.out _).mono ?_
        rintro e w1 ⟨rfl, rfl⟩
        go_wp2_with fail
        go_ret
        exact ⟨ret_bool HN'.out.symm, hb.out⟩
    · have hltz : ¬ (k : Int) < (ms.length : Int) := by omega
      have hal : Hid (ms.all (fun z => Ar.inB 0 z 1000000) = true) := Lib.hid (by have := hp.out; rwa [List.take_of_length_le (by omega)] at this)
      have hok : Hid (((ms.length : Int) == (zs.length : Int)) = Ms.okM ms zs.length) := Lib.hid (by
        unfold Ms.okM
        rw [hal.out, Bool.and_true, Bool.eq_iff_iff, beq_iff_eq, decide_eq_true_eq]; omega)
      obtain ⟨x0, x1, x2, x3⟩ := (HC.out.all hb.out).four
      have hbl0 := (HC.out.all hb.out).lt
      go_wp2_with fail
      go_quiet (fail)
      go_wp2_with fail
      go_ret
      exact ⟨ret_bool hok.out, bt hb.out (below_drewW _ _)⟩
set_option maxHeartbeats 1600000 in
theorem l13Sum_any (w : World) (u : Value) (ms : List Int) (hu : Sl w u ms) (hl : ms.length ≤ 64) (hm : ∀ k (hk : k < ms.length), 0 ≤ ms[k] ∧ ms[k] ≤ 1000000000) :
    Calls Try.prog 14 #[u] w fun e w' => e = .returned (.int .i64 ms.sum) ∧ w = w' := by
  obtain ⟨a, cap, rfl⟩ := hu.form
  have HU := Lib.hid hu
  have HM := Lib.hid hm
  clear hu hm
  go_enter Try.func14, Try.ntmps14
  go_wp2
  go_loop [3, 4] (fun s i => ∃ (k : Nat) (z : Int), k ≤ ms.length ∧ i = .int .i64 k ∧ s = .int .i64 z ∧ 0 ≤ z ∧ z ≤ 1000000000 * k ∧ Hid (z = (ms.take k).sum)) (fun _ i => ms.length - (intOf i).toNat)
  case atStart => exact ⟨0, 0, Nat.zero_le _, rfl, rfl, by omega, by omega, Lib.hid rfl⟩
  case round =>
    obtain ⟨k, z, hk, rfl, rfl, z1, z2, hz⟩ := hrel
    by_cases hlt : k < ms.length
    · have hltz : (k : Int) < (ms.length : Int) := by omega
      obtain ⟨b', off, cap1, hn, hbl, hcc⟩ := HU.out.atI hlt
      simp only [Value.slice.injEq] at hn
      obtain ⟨rfl, -, rfl⟩ := hn
      have k1 := hcc k hlt
      obtain ⟨m1, m2⟩ := HM.out k hlt
      have hn := Lib.hid (Ms.sum_take hlt)
      clear hcc
      generalize ms[k] = y at *
      go_wp2_with fail
      exact ⟨⟨k + 1, z + y, by omega, by go_num, rfl, by omega, by omega, Lib.hid (by rw [hn.out, hz.out])⟩, by simp only [intOf]; omega⟩
    · have hltz : ¬ (k : Int) < (ms.length : Int) := by omega
      have hkz : k = ms.length := by omega
      have hn : Hid (z = ms.sum) := Lib.hid (by rw [hz.out, hkz, List.take_length])
      clear hkz
      go_wp2
      go_ret
      exact ⟨ret_int hn.out, rfl⟩
namespace Ms
/-- what TotalMass answers -/
def tmC (r c s : Int) (zs ms : List Int) : Int := odC (Gw.ok r c s zs) true (okM ms zs.length)
def tmV (r c s : Int) (zs ms : List Int) : Int := if (Gw.ok r c s zs && okM ms zs.length) = true then ms.sum else 0
end Ms
set_option maxHeartbeats 3200000 in
theorem specTotalMass_any (w : World) (r c s : Int) (v : Value) (zs : List Int) (u : Value) (ms : List Int) (hv : Sl w v zs) (hl : zs.length ≤ 1048576) (hu : Sl w u ms) (hml : ms.length ≤ 1048576) :
    Calls Try.prog 5 #[.agg #[.int .i64 r, .int .i64 c, .int .i64 s, v], u] w fun e w' => e = .returned (.tuple #[.int .i64 (Ms.tmV r c s zs ms), .int .i64 (Ms.tmC r c s zs ms)]) ∧ Below w.heap.size w w' := by
  have HB := Lib.hid (boxG_below w r c s v 28)
  have HK := Lib.hid (fun W (h : Below (boxG w r c s v 28).heap.size (boxG w r c s v 28) W) => (boxG_kept h : GC W w.heap.size r c s v))
  have C := Lib.hid (l09Ok_any (boxG w r c s v 28) w.heap.size r c s v zs (boxG_cells w r c s v 28) (hv.below HB.out) hl)
  have HU := Lib.hid hu
  obtain ⟨ua, ucap, rfl⟩ := hu.form
  unfold Ms.tmV Ms.tmC
  clear hv hu
  cases hq : Gw.ok r c s zs with
  | false =>
    rw [hq] at C
    have E : Hid (odC false true (Ms.okM ms zs.length) = 1 ∧ (false && Ms.okM ms zs.length) = false) := Lib.hid ⟨by cases Ms.okM ms zs.length <;> rfl, rfl⟩
    clear hq
    rw [E.out.1, E.out.2, if_neg (by decide)]
    go_enter Try.func5, Try.ntmps5
    go_wp2_with fail
    refine C.out.mono ?_
    rintro e w1 ⟨rfl, b1⟩
    have B1 := Lib.hid (bt HB.out b1)
    clear b1
    go_wp2_with fail
    exact bodyPost_ret (v := .tuple #[.int .i64 0, .int .i64 1]) (by simp [results, Try.results5, go_sem]) rfl ⟨rfl, B1.out⟩
  | true =>
    have G := Lib.hid ((Gw.ok_iff _ _ _ _).1 hq)
    have CM := Lib.hid (fun W (h : Below (boxG w r c s v 28).heap.size (boxG w r c s v 28) W) => l13Masses_any W w.heap.size r c s v (.slice ua ms.length ucap) zs ms (HK.out W h) G.out (HU.out.below (bt HB.out h)) hml)
    rw [hq] at C
    clear hq
    cases hm : Ms.okM ms zs.length with
    | false =>
      rw [hm] at CM
      clear hm
      rw [show (true && false) = false from rfl, if_neg (by decide), show odC true true false = 7 from rfl]
      go_enter Try.func5, Try.ntmps5
      go_wp2_with fail
      refine C.out.mono ?_
      rintro e w1 ⟨rfl, b1⟩
      have N1 := Lib.hid b1
      clear b1
      go_wp2_with fail
      refine (CM.out _ N1.out).mono ?_
      rintro e w2 ⟨rfl, b2⟩
      have B2 := Lib.hid (bt (bt HB.out N1.out) b2)
      clear b2
      go_wp2_with fail
      exact bodyPost_ret (v := .tuple #[.int .i64 0, .int .i64 7]) (by simp [results, Try.results5, go_sem]) rfl ⟨rfl, B2.out⟩
    | true =>
      obtain ⟨h1, h2⟩ := Ms.okM_of hm
      have hlen := G.out.len
      have CSm := Lib.hid (fun W (h : Below w.heap.size w W) => l13Sum_any W (.slice ua ms.length ucap) ms (HU.out.below h) (by omega) (fun k hk => by have := h2 k hk; omega))
      rw [hm] at CM
      clear hm h1 h2 hlen
      rw [show (true && true) = true from rfl, if_pos rfl, show odC true true true = 0 from rfl]
      generalize ms.sum = z at *
      go_enter Try.func5, Try.ntmps5
      go_wp2_with fail
      refine C.out.mono ?_
      rintro e w1 ⟨rfl, b1⟩
      have N1 := Lib.hid b1
      clear b1
      go_wp2_with fail
      refine (CM.out _ N1.out).mono ?_
      rintro e w2 ⟨rfl, b2⟩
      have B2 := Lib.hid (bt (bt HB.out N1.out) b2)
      clear b2
      go_wp2_with fail
      refine (CSm.out _ B2.out).mono ?_
      rintro e w3 ⟨rfl, rfl⟩
      go_wp2_with fail
      exact bodyPost_ret (v := .tuple #[.int .i64 z, .int .i64 0]) (by simp [results, Try.results5, go_sem]) rfl ⟨rfl, B2.out⟩
end Go.Proofs.Ythcmpalbhaefbaa

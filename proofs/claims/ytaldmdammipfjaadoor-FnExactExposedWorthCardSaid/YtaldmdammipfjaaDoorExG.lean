/-
  The worth of what is exposed (chapter 15), by the model and by the program. The conditions: no name and no list of cells is longer than 2^20; of the program's side, the library's table of de Bruijn as it is laid.
-/
import Derived.Test.YtaldmdammipfjaaDoorExF
namespace Go.Proofs.YtaldmdammipfjaaDoor
open Go.RowKit Go.Shelf Go.Deep
set_option linter.unusedVariables false
set_option maxRecDepth 100000
namespace Ex
theorem exL_at {xs : List Ast} {ks : List Int} {k : Nat} (h : k < (exL xs ks).length) : ∃ m : Nat, (exL xs ks)[k] = (m : Int) ∧ m < xs.length := exL_mem (List.getElem_mem h)
end Ex
set_option maxHeartbeats 3200000 in
theorem l15Worth_any (w : World) (u : Value) (xs : List Ast) (t : Value) (ks : List Int) (hu : AsSl w u xs) (hul : xs.length ≤ 12) (hi : As.Sh xs) (hwo : ∀ x ∈ xs, 0 ≤ x.wo ∧ x.wo ≤ 1000000) (ht : Sl w t ks) (hkl : ks.length ≤ 1048576) :
    Calls Tryd.prog 47 #[u, t] w fun e w' => e = .returned (.int .i64 (Ex.woS xs (Ex.exL xs ks))) ∧ Below w.heap.size w w' := by
  have CX := Lib.hid (l15Exposed_any w u xs t ks hu hul hi ht hkl)
  obtain ⟨ua, ucap, rfl⟩ := hu.form
  have HU := Lib.hid hu
  have HWO := Lib.hid hwo
  have hxl := Ex.exL_len xs ks
  have HEA := Lib.hid (fun k (h : k < (Ex.exL xs ks).length) => Ex.exL_at h)
  clear hu hi ht hwo
  generalize Ex.exL xs ks = l at *
  go_enter Tryd.func47, Tryd.ntmps47
  go_wp2_with fail
  refine CX.out.mono ?_
  rintro e w1 ⟨q, rfl, o1, b1⟩
  have hsl := Lib.hid o1.sl
  obtain ⟨qa, qcap, rfl⟩ := o1.sl.form
  have B1 := Lib.hid b1
  clear o1 b1 CX
  go_wp2_with fail
  go_loop [6, 7] (fun sv iv => ∃ (k : Nat) (z : Int), k ≤ l.length ∧ iv = .int .i64 (k : Int) ∧ sv = .int .i64 z ∧ 0 ≤ z ∧ z ≤ 1000000 * k ∧ Hid (z = Ex.woS xs (l.take k))) (fun _ iv => l.length - (intOf iv).toNat)
  case atStart => exact ⟨0, 0, Nat.zero_le _, rfl, rfl, by omega, by omega, Lib.hid rfl⟩
  case round =>
    obtain ⟨k, z, hk, rfl, rfl, z1, z2, hz⟩ := hrel
    by_cases hlt : k < l.length
    · have hltz : (k : Int) < (l.length : Int) := by omega
      obtain ⟨eb, eo, ec1, hn2, hebl, hec⟩ := hsl.out.atI hlt
      simp only [Value.slice.injEq] at hn2
      obtain ⟨rfl, -, rfl⟩ := hn2
      have e1 := hec k hlt
      obtain ⟨m, hm, hml⟩ := HEA.out k hlt
      rw [hm] at e1
      obtain ⟨b', off, cap1, hn, hbl, hc⟩ := (HU.out.below B1.out).known hml
      simp only [Value.slice.injEq] at hn
      obtain ⟨rfl, -, rfl⟩ := hn
      obtain ⟨-, -, c2, -⟩ := hc m hml
      obtain ⟨q1, q2⟩ := HWO.out xs[m] (List.getElem_mem hml)
      have hsn : Hid (Ex.woS xs (l.take (k + 1)) = Ex.woS xs (l.take k) + xs[m].wo) := Lib.hid (by rw [Ex.woS_snoc xs l hlt, hm, Ex.woAt_in hml])
      have hmz : (m : Int) < (xs.length : Int) := by omega
      clear hec hc hm
      generalize xs[m].wo = y at *
      clear hml
      go_wp2_with fail
      exact ⟨⟨k + 1, z + y, by omega, by go_num, rfl, by omega, by omega, Lib.hid (by rw [hsn.out, hz.out])⟩, by simp only [intOf]; omega⟩
    · have hltz : ¬ (k : Int) < (l.length : Int) := by omega
      have hn : Hid (z = Ex.woS xs l) := Lib.hid (by rw [hz.out, List.take_of_length_le (by omega)])
      go_wp2
      go_ret
      exact ⟨ret_int hn.out, B1.out⟩
set_option maxHeartbeats 3200000 in
theorem specExposedWorth_any (w : World) (r c s : Int) (v : Value) (zs : List Int) (u : Value) (xs : List Ast) (t : Value) (ks : List Int) (hv : Sl w v zs) (hl : zs.length ≤ 1048576) (hu : AsSl w u xs) (hul : xs.length ≤ 1048576) (hi : As.Sh xs) (ht : Sl w t ks) (hkl : ks.length ≤ 1048576) :
    Calls Tryd.prog 22 #[.agg #[.int .i64 r, .int .i64 c, .int .i64 s, v], u, t] w fun e w' => e = .returned (.tuple #[.int .i64 (Ex.exV r c s zs xs ks), .int .i64 (Ex.exC r c s zs xs ks)]) ∧ Below w.heap.size w w' := by
  have HB := Lib.hid (boxG_below w r c s v 30)
  have C := Lib.hid (l15Ask_any (boxG w r c s v 30) w.heap.size r c s v zs u xs t ks (boxG_cells w r c s v 30) (hv.below HB.out) hl (hu.below HB.out) hul hi (ht.below HB.out) hkl)
  by_cases hz : Ex.exC r c s zs xs ks = 0
  · obtain ⟨-, -, -, OK⟩ := Ex.ex_0 hz
    have CX := Lib.hid (fun W (h : Below w.heap.size w W) => l15Worth_any W u xs t ks (hu.below h) OK.x12 hi (fun x hx => (OK.ce x hx).2.2) (ht.below h) hkl)
    have E := Lib.hid (Ex.exV_yes hz)
    rw [E.out, hz]
    rw [hz] at C
    clear hz OK hv hu ht E
    generalize Ex.woS xs (Ex.exL xs ks) = y at *
    go_enter Tryd.func22, Tryd.ntmps22
    go_wp2_with fail
    refine C.out.mono ?_
    rintro e w1 ⟨rfl, b1⟩
    have B1 := Lib.hid (bt HB.out b1)
    clear b1
    go_wp2_with fail
    refine (CX.out _ B1.out).mono ?_
    rintro e w2 ⟨rfl, b2⟩
    have B2 := Lib.hid (bt B1.out b2)
    clear b2
    go_wp2_with fail
    go_ret2
    exact ⟨rfl, B2.out⟩
  · have hcb : (Ex.exC r c s zs xs ks != 0) = true := bne_iff_ne.2 hz
    have E := Lib.hid (Ex.exV_no hz)
    rw [E.out]
    clear hz hv hu ht E
    generalize Ex.exC r c s zs xs ks = code at *
    go_enter Tryd.func22, Tryd.ntmps22
    go_wp2_with fail
    refine C.out.mono ?_
    rintro e w1 ⟨rfl, b1⟩
    have B1 := Lib.hid (bt HB.out b1)
    clear b1
    go_wp2_with fail
    go_ret2
    exact ⟨rfl, B1.out⟩
set_option maxHeartbeats 800000 in
theorem worthLit_any (q : Nat) (ua : Option Addr) (ucap : Nat) (xs : List Ast) (m : Nat) (W : World) (hc : W.cell? ⟨q, 0, none⟩ = some (.slice ua xs.length ucap)) (hu : AsSl W (.slice ua xs.length ucap) xs) (hm : m < xs.length) :
    Calls Tryd.prog 49 (#[.int .i64 (m : Int)] ++ #[.pointer (some ⟨q, 0, none⟩)]) W fun e w' => e = .returned (.int .i64 xs[m].wo) ∧ W = w' := by
  obtain ⟨b', off, cap1, hn, hbl, hcc⟩ := hu.known hm
  simp only [Value.slice.injEq] at hn
  obtain ⟨rfl, -, rfl⟩ := hn
  obtain ⟨-, -, c2, -⟩ := hcc m hm
  have hmz : (m : Int) < (xs.length : Int) := by omega
  clear hcc hu
  generalize xs[m].wo = y at *
  clear hm
  go_enter Tryd.func49, Tryd.ntmps49
  go_wp2_with fail
  go_ret
  exact ⟨rfl, rfl⟩
set_option maxHeartbeats 6400000 in
theorem implExposedWorth_any (w : World) (r c s : Int) (v : Value) (zs : List Int) (u : Value) (xs : List Ast) (t : Value) (ks : List Int) (hv : Sl w v zs) (hl : zs.length ≤ 1048576) (hu : AsSl w u xs) (hul : xs.length ≤ 1048576) (hi : As.Sh xs) (ht : Sl w t ks) (hkl : ks.length ≤ 1048576) (hT : DbAt w) :
    Calls Tryd.prog 23 #[.agg #[.int .i64 r, .int .i64 c, .int .i64 s, v], u, t] w fun e w' => e = .returned (.tuple #[.int .i64 (Ex.exV r c s zs xs ks), .int .i64 (Ex.exC r c s zs xs ks)]) ∧ Below w.heap.size w w' := by
  obtain ⟨ua, ucap, rfl⟩ := hu.form
  obtain ⟨W2, hW2⟩ : ∃ W2, (boxG w r c s v 30).alloc (.cells #[.slice ua xs.length ucap] 32) = W2 := ⟨_, rfl⟩
  have HB : Hid (Below w.heap.size w W2) := Lib.hid (by rw [← hW2]; exact bt (boxG_below ..) ((Below.refl _ _).alloc (Nat.le_refl _) _))
  have K1 : Hid (GC W2 w.heap.size r c s v) := Lib.hid (by rw [← hW2]; exact (boxG_cells w r c s _ _).all ((Below.refl _ _).alloc (Nat.le_refl _) _))
  have R1 : Hid (Whole W2 (w.heap.size + 1) 32 #[.slice ua xs.length ucap]) := Lib.hid (by
    rw [← hW2]
    have := Whole.new (boxG w r c s v 30) 32 #[.slice ua xs.length ucap]
    rw [boxG_size] at this
    exact this)
  have HU := Lib.hid (hu.below HB.out)
  have CX := Lib.hid (implExposedAssets_any W2 r c s v zs (.slice ua xs.length ucap) xs t ks (hv.below HB.out) hl HU.out hul hi (ht.below HB.out) hkl (hT.below HB.out))
  have EV := Lib.hid (Ex.exV_w r c s zs ks xs)
  have HX : Hid ((Ex.exA r c s zs xs ks).length ≤ 64 ∧ ∀ k (h : k < (Ex.exA r c s zs xs ks).length), ∃ m : Nat, (Ex.exA r c s zs xs ks)[k] = (m : Int) ∧ ∃ hm : m < xs.length, 0 ≤ xs[m].wo ∧ xs[m].wo ≤ 1000000) := Lib.hid (by
    by_cases hz : Ex.exC r c s zs xs ks = 0
    · obtain ⟨-, -, -, OK⟩ := Ex.ex_0 hz
      rw [Ex.exA_yes hz]
      have h1 := Ex.exL_len xs ks
      have h2 := OK.x12
      exact ⟨by omega, fun k h => by
        obtain ⟨m, hm, hml⟩ := Ex.exL_at h
        exact ⟨m, hm, hml, (OK.ce _ (List.getElem_mem hml)).2.2⟩⟩
    · rw [Ex.exA_no hz]
      exact ⟨by simp, fun k h => by simp at h⟩)
  obtain ⟨x0, x1, x2, x3⟩ := K1.out.four
  have x4 := R1.out.at_ 0
  have hwl := K1.out.lt
  have hwl2 := R1.out.lt
  rw [EV.out]
  clear hu ht hv hT hi EV
  unfold boxG at hW2
  generalize Ex.exA r c s zs xs ks = l at *
  generalize Ex.exC r c s zs xs ks = code at *
  obtain ⟨y, hy⟩ : ∃ y, Ex.woS xs l = y := ⟨_, rfl⟩
  rw [hy]
  have HY := Lib.hid hy
  clear hy
  go_enter Tryd.func23, Tryd.ntmps23
  go_wp2_with fail
  try rw [hW2]
  refine CX.out.mono ?_
  rintro e w3 ⟨q, rfl, o3, b3⟩
  have B3 := Lib.hid (bt HB.out b3)
  have CS := Lib.hid (sumF_any 49 #[.pointer (some ⟨w.heap.size + 1, 0, none⟩)] (enters_of Tryd.func49 (by kernel_rfl) rfl) (Ex.woAt xs) w3 q l HX.out.1 o3.sl
    (fun k hk => by
      obtain ⟨m, hm, hml, h1, h2⟩ := HX.out.2 k hk
      rw [hm, Ex.woAt_in hml]; omega)
    (fun k hk => by
      obtain ⟨m, hm, hml, h1, h2⟩ := HX.out.2 k hk
      rw [hm, Ex.woAt_in hml]
      exact worthLit_any (w.heap.size + 1) ua ucap xs m w3 ((R1.out.all b3).at_ 0) (HU.out.below b3) hml))
  rw [show (l.map (Ex.woAt xs)).sum = y from HY.out] at CS
  clear o3 b3 CX x0 x1 x2 x3 x4 hwl hwl2
  go_wp2_with fail
  refine CS.out.mono ?_
  rintro e w4 ⟨rfl, rfl⟩
  go_wp2_with fail
  go_ret2
  exact ⟨rfl, B3.out⟩
end Go.Proofs.YtaldmdammipfjaaDoor

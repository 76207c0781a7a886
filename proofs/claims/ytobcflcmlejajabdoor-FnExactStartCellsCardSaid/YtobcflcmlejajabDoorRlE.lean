/-
  The cells of a slope and a direction as asked, answered or refused, by the model. No condition of its own.
-/
import Derived.Test.YtobcflcmlejajabDoorRlD
namespace Go.Proofs.YtobcflcmlejajabDoor
open Go.RowKit Go.Shelf Go.Deep
set_option linter.unusedVariables false
set_option maxRecDepth 100000
namespace Gw
theorem sc_bad {r c s : Int} {zs : List Int} (lo hi : Int) (ks : List Int) (h : ok r c s zs = false) : scL r c s zs lo hi ks = [] ∧ scC r c s zs lo hi ks = 1 := by unfold scL scC odC; rw [h]; exact ⟨rfl, rfl⟩
theorem sc_rng {r c s : Int} {zs : List Int} {lo hi : Int} (ks : List Int) (h : ok r c s zs = true) (h2 : bdB lo hi = false) : scL r c s zs lo hi ks = [] ∧ scC r c s zs lo hi ks = 2 := by unfold scL scC odC; rw [h, h2]; exact ⟨rfl, rfl⟩
theorem sc_ord {r c s : Int} {zs : List Int} {lo hi : Int} {ks : List Int} (h : ok r c s zs = true) (h2 : bdB lo hi = true) (h3 : Rl.ri 0 7 ks = false) : scL r c s zs lo hi ks = [] ∧ scC r c s zs lo hi ks = 7 := by unfold scL scC odC; rw [h, h2, h3]; exact ⟨rfl, rfl⟩
theorem sc_yes {r c s : Int} {zs : List Int} {lo hi : Int} {ks : List Int} (h : ok r c s zs = true) (h2 : bdB lo hi = true) (h3 : Rl.ri 0 7 ks = true) : scL r c s zs lo hi ks = stF (stB r c s zs lo hi ks) zs.length ∧ scC r c s zs lo hi ks = 0 := by unfold scL scC odC; rw [h, h2, h3]; exact ⟨rfl, rfl⟩
end Gw
set_option maxHeartbeats 3200000 in
theorem specStartCells_any (w : World) (r c s : Int) (v : Value) (zs : List Int) (lo hi : Int) (u : Value) (ks : List Int) (hv : Sl w v zs) (hl : zs.length ≤ 1048576) (hu : Sl w u ks) (hkl : ks.length ≤ 1048576) :
    Calls Tryd.prog 19 #[.agg #[.int .i64 r, .int .i64 c, .int .i64 s, v], .int .i64 lo, .int .i64 hi, u] w (RIp w (Gw.scL r c s zs lo hi ks) (Gw.scC r c s zs lo hi ks)) := by
  have HB := Lib.hid (boxG_below w r c s v 28)
  have C := Lib.hid (l09Ok_any (boxG w r c s v 28) w.heap.size r c s v zs (boxG_cells w r c s v 28) (hv.below HB.out) hl)
  have HK := Lib.hid (fun W (h : Below (boxG w r c s v 28).heap.size (boxG w r c s v 28) W) => (boxG_kept h : GC W w.heap.size r c s v))
  have HVV := Lib.hid hv
  have HUU := Lib.hid hu
  have C1 := Lib.hid (fun W => l00In_any lo 0 10000 W)
  have C2 := Lib.hid (fun W => l00In_any hi lo 10000 W)
  have CR := Lib.hid (fun W (h : Below (boxG w r c s v 28).heap.size (boxG w r c s v 28) W) => l00Rises_any W u ks 0 7 (HUU.out.below (bt HB.out h)) hkl)
  clear hv hu
  cases hq : Gw.ok r c s zs with
  | false =>
    rw [hq] at C
    have E := Lib.hid (Gw.sc_bad lo hi ks hq)
    clear hq
    go_enter Tryd.func19, Tryd.ntmps19
    go_wp2_with fail
    refine C.out.mono ?_
    rintro e w1 ⟨rfl, b1⟩
    have N1 := Lib.hid b1
    clear b1
    go_wp2_with fail
    exact bodyPost_ret (v := .tuple #[.slice none 0 0, .int .i64 1]) (by simp [results, Tryd.results19, go_sem]) rfl (by rw [E.out.1, E.out.2]; exact RIp.no (bt HB.out N1.out))
  | true =>
    have G := (Gw.ok_iff _ _ _ _).1 hq
    have CL := Lib.hid (fun W (h : Below (boxG w r c s v 28).heap.size (boxG w r c s v 28) W) => l11Start_any W w.heap.size r c s v zs lo hi u ks (HK.out W h) (HVV.out.below (bt HB.out h)) G (HUU.out.below (bt HB.out h)) hkl)
    rw [hq] at C
    clear G
    have hbd : Gw.bdB lo hi = (Ar.inB 0 lo 10000 && Ar.inB lo hi 10000) := rfl
    cases h1 : Ar.inB 0 lo 10000 with
    | false =>
      rw [h1] at C1
      have E := Lib.hid (Gw.sc_rng ks hq (by rw [hbd, h1]; rfl))
      clear hq h1 hbd
      go_enter Tryd.func19, Tryd.ntmps19
      go_wp2_with fail
      refine C.out.mono ?_
      rintro e w1 ⟨rfl, b1⟩
      have N1 := Lib.hid b1
      clear b1
      go_wp2_with fail
      refine (C1.out _).mono ?_
      rintro e w' ⟨rfl, rfl⟩
      go_wp2_with fail
      exact bodyPost_ret (v := .tuple #[.slice none 0 0, .int .i64 2]) (by simp [results, Tryd.results19, go_sem]) rfl (by rw [E.out.1, E.out.2]; exact RIp.no (bt HB.out N1.out))
    | true =>
      rw [h1] at C1
      cases h2 : Ar.inB lo hi 10000 with
      | false =>
        rw [h2] at C2
        have E := Lib.hid (Gw.sc_rng ks hq (by rw [hbd, h1, h2]; rfl))
        clear hq h1 h2 hbd
        go_enter Tryd.func19, Tryd.ntmps19
        go_wp2_with fail
        refine C.out.mono ?_
        rintro e w1 ⟨rfl, b1⟩
        have N1 := Lib.hid b1
        clear b1
        go_wp2_with fail
        refine (C1.out _).mono ?_
        rintro e w' ⟨rfl, rfl⟩
        go_wp2_with fail
        refine (C2.out _).mono ?_
        rintro e w' ⟨rfl, rfl⟩
        go_wp2_with fail
        exact bodyPost_ret (v := .tuple #[.slice none 0 0, .int .i64 2]) (by simp [results, Tryd.results19, go_sem]) rfl (by rw [E.out.1, E.out.2]; exact RIp.no (bt HB.out N1.out))
      | true =>
        rw [h2] at C2
        rw [h1, h2] at hbd
        cases h3 : Rl.ri 0 7 ks with
        | false =>
          rw [h3] at CR
          have E := Lib.hid (Gw.sc_ord hq hbd h3)
          clear hq h1 h2 h3 hbd
          go_enter Tryd.func19, Tryd.ntmps19
          go_wp2_with fail
          refine C.out.mono ?_
          rintro e w1 ⟨rfl, b1⟩
          have N1 := Lib.hid b1
          clear b1
          go_wp2_with fail
          refine (C1.out _).mono ?_
          rintro e w' ⟨rfl, rfl⟩
          go_wp2_with fail
          refine (C2.out _).mono ?_
          rintro e w' ⟨rfl, rfl⟩
          go_wp2_with fail
          refine (CR.out _ N1.out).mono ?_
          rintro e w2 ⟨rfl, b2⟩
          have N2 := Lib.hid (bt N1.out b2)
          clear b2
          go_wp2_with fail
          exact bodyPost_ret (v := .tuple #[.slice none 0 0, .int .i64 7]) (by simp [results, Tryd.results19, go_sem]) rfl (by rw [E.out.1, E.out.2]; exact RIp.no (bt HB.out N2.out))
        | true =>
          rw [h3] at CR
          have E := Lib.hid (Gw.sc_yes hq hbd h3)
          clear hq h1 h2 h3 hbd
          generalize Gw.stF (Gw.stB r c s zs lo hi ks) zs.length = l at *
          go_enter Tryd.func19, Tryd.ntmps19
          go_wp2_with fail
          refine C.out.mono ?_
          rintro e w1 ⟨rfl, b1⟩
          have N1 := Lib.hid b1
          clear b1
          go_wp2_with fail
          refine (C1.out _).mono ?_
          rintro e w' ⟨rfl, rfl⟩
          go_wp2_with fail
          refine (C2.out _).mono ?_
          rintro e w' ⟨rfl, rfl⟩
          go_wp2_with fail
          refine (CR.out _ N1.out).mono ?_
          rintro e w2 ⟨rfl, b2⟩
          have N2 := Lib.hid (bt N1.out b2)
          clear b2
          go_wp2_with fail
          refine (CL.out _ N2.out).mono ?_
          rintro e w3 ⟨q, rfl, o3, b3⟩
          have B3 := Lib.hid (bt (bt HB.out N2.out) b3)
          have O3 := Lib.hid (Own.le o3 (bt HB.out N2.out).size)
          clear b3 o3
          go_wp2_with fail
          exact bodyPost_ret (v := .tuple #[q, .int .i64 0]) (by simp [results, Tryd.results19, go_sem]) rfl (by rw [E.out.1, E.out.2]; exact RIp.yes rfl rfl O3.out B3.out)
end Go.Proofs.YtobcflcmlejajabDoor

/-
  Which assets are valid (chapter 15), by the exported functions. The condition: no name and no list of cells is longer than 2^20 (beyond it the laws answer at once).
-/
import Derived.Test.YtaldmdammipfjaaDoorExA
import Derived.Test.YtaldmdammipfjaaDoorLatS
namespace Go.Proofs.YtaldmdammipfjaaDoor
open Go.RowKit Go.Shelf Go.Deep
set_option linter.unusedVariables false
set_option maxRecDepth 100000
namespace Ex
theorem vl_f {r c s : Int} {zs : List Int} (h : Gw.ok r c s zs = false) (xs : List Ast) : vl r c s zs xs = false := by unfold vl; rw [h]; rfl
theorem vl_t {r c s : Int} {zs : List Int} (h : Gw.ok r c s zs = true) (xs : List Ast) : vl r c s zs xs = okL zs.length xs := by unfold vl; rw [h]; rfl
end Ex
/-! ### the program -/
theorem idLitA_any (x : Ast) (u : Value) (w : World) :
    Calls Tryd.prog 77 #[.agg #[.string ⟨x.id.toArray⟩, u, .int .i64 x.wo]] w fun e w' => e = .returned (.string ⟨x.id.toArray⟩) ∧ Below w.heap.size w w' := by
  go_enter Tryd.func77, Tryd.ntmps77
  go_wp2
  go_ret
  exact ⟨rfl, (Below.refl _ _).alloc (Nat.le_refl _) _⟩
set_option maxHeartbeats 1600000 in
theorem increasingAst_any (w : World) (v : Value) (xs : List Ast) (hv : AsSl w v xs) (hl : xs.length ≤ 1048576) :
    Calls Tryd.prog 76 #[v, .func (.func 77) #[] #[]] w fun e w' => e = .returned (.bool (Ex.up none xs)) ∧ Below w.heap.size w w' := by
  have eg := enters_of Tryd.func77 (by kernel_rfl) rfl
  obtain ⟨a, cap, rfl⟩ := hv.form
  have HV := Lib.hid hv
  have W0 := Lib.hid (Whole.new w 148 #[.string ⟨([] : List UInt8).toArray⟩, .bool false])
  have B0 := Lib.hid ((Below.refl w.heap.size w).alloc (Nat.le_refl _) (.cells #[.string ⟨([] : List UInt8).toArray⟩, .bool false] 148))
  clear hv
  go_enter Tryd.func76, Tryd.ntmps76
  go_wp2
  go_loopw [13] (fun i wr => ∃ (k : Nat) (y : List UInt8) (ex : Bool), k ≤ xs.length ∧ i = .int .i64 k ∧ Hid (Whole wr w.heap.size 148 #[.string ⟨y.toArray⟩, .bool ex]) ∧ Hid (Below w.heap.size w wr) ∧ Hid (Ex.up none (xs.take k) = true) ∧ Hid ((ex = false ∧ k = 0) ∨ (ex = true ∧ 0 < k ∧ some y = Ex.la none (xs.take k)))) (fun i _ => xs.length - (intOf i).toNat)
  case atStart => exact ⟨0, [], false, Nat.zero_le _, rfl, W0, B0, Lib.hid rfl, Lib.hid (Or.inl ⟨rfl, rfl⟩)⟩
  case round =>
    obtain ⟨k, y, ex, hk, rfl, hW, hb, hu, hx⟩ := hrel
    by_cases hlt : k < xs.length
    · have hltz : (k : Int) < (xs.length : Int) := by omega
      obtain ⟨b, off, cap1, hn, hbl, hcc⟩ := (HV.out.below hb.out).known hlt
      simp only [Value.slice.injEq] at hn
      obtain ⟨rfl, -, rfl⟩ := hn
      obtain ⟨c0, c1, c2, csl⟩ := hcc k hlt
      obtain ⟨ua, ucap, hua⟩ := csl.form
      rw [hua] at c1
      have C := fun W => Lib.hid (idLitA_any xs[k] (.slice ua xs[k].ce.length ucap) W)
      clear hcc csl hua
      generalize xs[k].ce.length = ul at *
      go_wp2_with fail
      refine (C _).out.mono ?_
      rintro e w1 ⟨rfl, b1⟩
      have hW1 := Lib.hid ((hW.out.alloc _).all b1)
      have hb1 := Lib.hid ((hb.out.alloc hb.out.size _).trans (b1.mono (by have := hb.out.size; simp; omega)))
      clear b1 c0 c1 c2
      go_wp2_with fail
      refine (latS_pass _ _ _ _ _ hW1.out).mono ?_
      rintro e w2 ⟨rfl, h2, g2⟩
      have hW2 := Lib.hid h2
      have hb2 := Lib.hid (below_only hb1.out g2 (Nat.le_refl _) hb1.out.size)
      clear h2 g2 hW1 hb1 hW hb
      rcases hx.out with ⟨rfl, rfl⟩ | ⟨rfl, h0, hy⟩
      · have hu2 : Hid (Ex.up none (xs.take (0 + 1)) = true) := Lib.hid (Ex.up_one hlt)
        have hl2 : Hid (some xs[0].id = Ex.la none (xs.take (0 + 1))) := Lib.hid (Ex.la_take none hlt).symm
        clear hu hx
        go_wp2_with fail
        exact ⟨⟨1, xs[0].id, true, by omega, by go_num, hW2, hb2, hu2, Lib.hid (Or.inr ⟨rfl, by omega, hl2.out⟩)⟩, by simp only [intOf]; omega⟩
      · have hl2 : Hid (some xs[k].id = Ex.la none (xs.take (k + 1))) := Lib.hid (Ex.la_take none hlt).symm
        have HU : Hid (Ex.up none (xs.take (k + 1)) = Op.bytesLess y xs[k].id) := Lib.hid (by rw [Ex.up_snoc hlt, hu.out, ← hy]; rfl)
        have HT := Ex.bl_total xs[k].id y
        clear hy hx h0
        cases ht : Op.bytesLess y xs[k].id with
        | false =>
          have hn : Hid (Ex.up none xs = false) := Lib.hid (Ex.up_no (by rw [HU.out]; exact ht))
          rw [ht] at HT
          clear HU hl2
          generalize xs[k].id = q at *
          go_wp2_with fail
          go_ret
          exact ⟨ret_bool hn.out.symm, hb2.out⟩
        | true =>
          have hu2 : Hid (Ex.up none (xs.take (k + 1)) = true) := Lib.hid (by rw [HU.out]; exact ht)
          rw [ht] at HT
          clear HU
          generalize xs[k].id = q at *
          go_wp2_with fail
          exact ⟨⟨k + 1, q, true, by omega, by go_num, hW2, hb2, hu2, Lib.hid (Or.inr ⟨rfl, by omega, hl2.out⟩)⟩, by simp only [intOf]; omega⟩
    · have hltz : ¬ (k : Int) < (xs.length : Int) := by omega
      have hkz : k = xs.length := by omega
      have hn : Hid (Ex.up none xs = true) := Lib.hid (by have := hu.out; rw [hkz, List.take_length] at this; exact this)
      clear hkz
      go_wp2
      go_ret
      exact ⟨ret_bool hn.out.symm, hb.out⟩
set_option maxHeartbeats 800000 in
theorem wrongLitA_any (w W : World) (bx : Nat) (r c s : Int) (a : Option Addr) (n cap : Nat) (x : Ast) (u : Value) (hc : GC w bx r c s (.slice a n cap)) (hW : Below w.heap.size w W) (hu : Sl W u x.ce) (hx : As.Sh1 x) (hn : n ≤ 1048576) :
    Calls Tryd.prog 73 (#[.agg #[.string ⟨x.id.toArray⟩, u, .int .i64 x.wo]] ++ #[.pointer (some ⟨bx, 0, none⟩)]) W fun e w' => e = .returned (.bool (!Ex.ok1 n x)) ∧ Below w.heap.size w w' := by
  have C := Lib.hid (isWrongAst_any n x u (boxAst W x u 48) (hu.below (boxAst_below ..)) hx (by omega) (by omega))
  have B0 := Lib.hid (bt hW (boxAst_below W x u 48))
  have c3 := (hc.all hW).c3
  have hlt := (hc.all hW).lt
  clear hc hW hu
  go_enter Tryd.func73, Tryd.ntmps73
  go_wp2_with fail
  refine C.out.mono ?_
  rintro e w1 ⟨rfl, b1⟩
  have B1 := Lib.hid (bt B0.out b1)
  clear b1
  go_wp2_with fail
  go_ret
  exact ⟨rfl, B1.out⟩
set_option maxHeartbeats 1600000 in
theorem implValidAssets_any (w : World) (r c s : Int) (v : Value) (zs : List Int) (u : Value) (xs : List Ast) (hv : Sl w v zs) (hl : zs.length ≤ 1048576) (hu : AsSl w u xs) (hul : xs.length ≤ 1048576) (hi : As.Sh xs) :
    Calls Tryd.prog 42 #[.agg #[.int .i64 r, .int .i64 c, .int .i64 s, v], u] w fun e w' => e = .returned (.bool (Ex.vl r c s zs xs)) ∧ Below w.heap.size w w' := by
  have HB := Lib.hid (boxG_below w r c s v 30)
  obtain ⟨a, cap, rfl⟩ := hv.form
  obtain ⟨ua, ucap, rfl⟩ := hu.form
  have CV := Lib.hid (implValidGrid_any (boxG w r c s (.slice a zs.length cap) 30) r c s _ zs (hv.below HB.out) hl)
  have K := Lib.hid (fun W (h : Below (boxG w r c s (.slice a zs.length cap) 30).heap.size (boxG w r c s (.slice a zs.length cap) 30) W) => (boxG_cells w r c s (.slice a zs.length cap) 30).all h)
  have HU := Lib.hid (fun W (h : Below w.heap.size w W) => hu.below h)
  have CF := Lib.hid (fun W (h : Below (boxG w r c s (.slice a zs.length cap) 30).heap.size (boxG w r c s (.slice a zs.length cap) 30) W) => containsFuncAst_any 73 #[.pointer (some ⟨w.heap.size, 0, none⟩)] (enters_of Tryd.func73 (by kernel_rfl) rfl) (fun x => !Ex.ok1 zs.length x) W (.slice ua xs.length ucap) xs hul (hu.below (bt HB.out h)) (fun x hx W' u' hW' hu' => wrongLitA_any W W' w.heap.size r c s a zs.length cap x u' (K.out W h) hW' hu' (hi x hx) hl))
  clear hv hu hi
  cases hq : Gw.ok r c s zs with
  | false =>
    have hr := Lib.hid (Ex.vl_f hq xs)
    rw [hq] at CV
    clear hq K CF
    go_enter Tryd.func42, Tryd.ntmps42
    go_wp2_with fail
    refine CV.out.mono ?_
    rintro e w1 ⟨rfl, b1⟩
    have B1 := Lib.hid (bt HB.out b1)
    clear b1
    go_wp2_with fail
    go_ret
    exact ⟨ret_bool hr.out.symm, B1.out⟩
  | true =>
    have hr := Lib.hid (Ex.vl_t hq xs)
    rw [hq] at CV
    clear hq
    by_cases h12 : xs.length ≤ 12
    · have hd : decide ((12 : Int) < (xs.length : Int)) = false := decide_eq_false (by omega)
      cases hal : xs.all (Ex.ok1 zs.length) with
      | true =>
        have hn : Hid ((xs.any fun x => !Ex.ok1 zs.length x) = false) := Lib.hid (by rw [Ex.not_any, hal]; rfl)
        have hr2 := Lib.hid (hr.out.trans (Ex.okL_eq hal h12))
        rw [hn.out] at CF
        clear hal hr hn
        go_enter Tryd.func42, Tryd.ntmps42
        go_wp2_with fail
        refine CV.out.mono ?_
        rintro e w1 ⟨rfl, b1⟩
        have N1 := Lib.hid b1
        clear b1
        go_wp2_with fail
        refine (CF.out _ N1.out).mono ?_
        rintro e w2 ⟨rfl, b2⟩
        have B2 := Lib.hid (bt (bt HB.out N1.out) b2)
        clear b2
        go_wp2_with fail
        refine (increasingAst_any w2 _ xs (HU.out _ B2.out) hul).mono ?_
        rintro e w3 ⟨rfl, b3⟩
        have B3 := Lib.hid (bt B2.out b3)
        clear b3
        go_wp2_with fail
        go_ret
        exact ⟨ret_bool hr2.out.symm, B3.out⟩
      | false =>
        have hn : Hid ((xs.any fun x => !Ex.ok1 zs.length x) = true) := Lib.hid (by rw [Ex.not_any, hal]; rfl)
        have hr2 := Lib.hid (hr.out.trans (Ex.okL_not hal))
        rw [hn.out] at CF
        clear hal hr hn
        go_enter Tryd.func42, Tryd.ntmps42
        go_wp2_with fail
        refine CV.out.mono ?_
        rintro e w1 ⟨rfl, b1⟩
        have N1 := Lib.hid b1
        clear b1
        go_wp2_with fail
        refine (CF.out _ N1.out).mono ?_
        rintro e w2 ⟨rfl, b2⟩
        have B2 := Lib.hid (bt (bt HB.out N1.out) b2)
        clear b2
        go_wp2_with fail
        go_ret
        exact ⟨ret_bool hr2.out.symm, B2.out⟩
    · have hd : decide ((12 : Int) < (xs.length : Int)) = true := decide_eq_true (by omega)
      have hr2 := Lib.hid (hr.out.trans (Ex.okL_long h12))
      clear K CF hr
      go_enter Tryd.func42, Tryd.ntmps42
      go_wp2_with fail
      refine CV.out.mono ?_
      rintro e w1 ⟨rfl, b1⟩
      have B1 := Lib.hid (bt HB.out b1)
      clear b1
      go_wp2_with fail
      go_ret
      exact ⟨ret_bool hr2.out.symm, B1.out⟩
end Go.Proofs.YtaldmdammipfjaaDoor

/-
  DriftGain of chapter 6 by the model. No condition of its own.
-/
import Derived.Test.YtmidihmbehaegaaDoorFdR
import Derived.Test.YtmidihmbehaegaaDoorFdDa
import Derived.Deep.AppendLies
import Derived.Deep.RegionHeld3
namespace Go.Proofs.YtmidihmbehaegaaDoor
open Go.RowKit Go.Shelf Go.Deep Go.WideShapes
set_option linter.unusedVariables false
set_option maxRecDepth 100000

/-- how a call ends that answers numbers and a code -/
def RZM (w : World) (l : List Int) (c : Int) (e : Ending) (w' : World) : Prop := ∃ u, e = .returned (.tuple #[u, .int .i64 c]) ∧ Own w.heap.size w' u l ∧ Below w.heap.size w w'
theorem one_new (w : World) (z : Int) (t : TypeId) : ∀ j u, ([Value.int .i64 z] : List Value)[j]? = some u → ((w.alloc (.cells #[.int .i64 z] t)).drew).cell? ((⟨w.heap.size, 0, none⟩ : Addr).add j) = some u := fun j u h => row_new w [.int .i64 z] t j u h
set_option maxHeartbeats 12800000 in
theorem specDriftGain_any (w : World) (r c : Int) (v : Value) (zs : List Int) (u : Value) (ds : List Int) (s : Int) (ho : IAt w v zs) (hl : zs.length ≤ 1048576) (hu : Sl w u ds) (hl2 : ds.length ≤ 1048576) :
    Calls Tryd.prog 21 #[.agg #[.int .i64 r, .int .i64 c, v], u, .int .i64 s] w (RZM w (Fw.dgZ r c zs ds s) (Fw.drC r c zs ds s)) := by
  obtain ⟨i0, hi, hz0, hz1, hz2⟩ := info_parts info_i64
  obtain ⟨ua, ucap, rfl⟩ := hu.form
  obtain ⟨W1, hW1⟩ : ∃ W, W = boxF w r c v 26 := ⟨_, rfl⟩
  have HB : Hid (Below w.heap.size w W1) := Lib.hid (by rw [hW1]; exact boxF_below ..)
  have K0 : Hid (∀ W, Below W1.heap.size W1 W → FC W w.heap.size r c v) := Lib.hid (fun W h => by
    have k := boxF_cells w r c v 26
    rw [← hW1] at k
    exact k.all h)
  have C := Lib.hid (l06Run_any W1 w.heap.size r c v (.slice ua ds.length ucap) zs ds s (K0.out W1 (Below.refl _ _)) (ho.all HB.out) hl (hu.below HB.out) hl2)
  have HO := Lib.hid ho
  obtain ⟨vB, vb, vcap, rfl, hvo⟩ := ho
  have hbx : boxF w r c (.slice (some ⟨vb, 0, none⟩) zs.length vcap) 26 = w.alloc (.cells #[.int .i64 r, .int .i64 c, .slice (some ⟨vb, 0, none⟩) zs.length vcap] 26) := rfl
  have hsz : Hid (W1.heap.size = w.heap.size + 1) := Lib.hid (by rw [hW1]; exact boxF_size ..)
  clear hvo hu
  by_cases hc : Fw.drC r c zs ds s = 0
  · obtain ⟨hok, hms, hlen, -⟩ := Fw.dr_fine hc
    have hzs := Lib.hid ((Fw.ok_iff _ _ _).1 hok).2
    have hn := Fw.fits_len ((Fw.ok_iff _ _ _).1 hok).1
    have hg := Lib.hid (Fw.dgZ_0 hc)
    have HMS := Lib.hid hms
    rw [hc] at C ⊢
    clear hc hok hms
    generalize Fw.dgZ r c zs ds s = G at *
    generalize Fw.drZ r c zs ds s = Z at *
    generalize Fw.drR r c zs ds s = R at *
    generalize Fw.drK r c zs ds s = K at *
    have HL := Lib.hid hlen
    have hzl : Z.length ≤ 64 := by omega
    clear hlen
    go_enter Tryd.func21, Tryd.ntmps21
    go_wp2_with fail
    rw [← hbx, ← hW1]
    clear hbx hW1
    refine C.out.mono ?_
    rintro e w2 ⟨a, cap, rfl, o2, b2⟩
    obtain ⟨g, cap', hv, hgl, hgr⟩ := World.ownsRow.form o2 (by have := HL.out; omega)
    simp only [Value.slice.injEq] at hv
    obtain ⟨rfl, -, rfl⟩ := hv
    obtain ⟨W4, hW4⟩ : ∃ W, W = w2.alloc (.cells #[.int .i64 R, .int .i64 K, .slice (some ⟨g, 0, none⟩) Z.length cap] 26) := ⟨_, rfl⟩
    have bW : Below w2.heap.size w2 W4 := by rw [hW4]; exact (Below.refl _ _).alloc (Nat.le_refl _) _
    have B4 := Lib.hid (bt b2 bW)
    have O4 := Lib.hid (Own.belowAll o2 bW)
    have kn : FC W4 w2.heap.size R K (.slice (some ⟨g, 0, none⟩) Z.length cap) := by rw [hW4]; exact boxF_cells w2 R K _ _
    have KN := Lib.hid kn
    have hgr4 : g < W4.heap.size := Nat.lt_of_lt_of_le hgr bW.size
    have KK : Hid (∀ W, Below W4.heap.size W4 W → FC W w.heap.size r c (.slice (some ⟨vb, 0, none⟩) zs.length vcap) ∧ FC W w2.heap.size R K (.slice (some ⟨g, 0, none⟩) Z.length cap) ∧ (∀ k (hk : k < zs.length), W.cell? ⟨vb, k, none⟩ = some (.int .i64 zs[k])) ∧ (∀ k (hk : k < Z.length), W.cell? ⟨g, k, none⟩ = some (.int .i64 Z[k]))) := Lib.hid (fun W h => by
      refine ⟨K0.out W (bt B4.out h), KN.out.all h, fun k hk => ?_, fun k hk => own_cell (Own.belowAll O4.out h) (List.getElem?_eq_getElem hk)⟩
      obtain ⟨vb', off, cap1, hvn, hbl, hcc⟩ := Sl.atI ((HO.out.all (bt HB.out (bt B4.out h))).sl) hk
      simp only [Value.slice.injEq, Option.some.injEq, Addr.mk.injEq, and_true] at hvn
      obtain ⟨⟨rfl, rfl⟩, -, rfl⟩ := hvn
      have := hcc k hk
      rwa [Nat.zero_add] at this)
    have hw2 : W4.heap.size = w2.heap.size + 1 := by rw [hW4]; simp
    clear o2 b2 hgl hgr bW kn C
    go_wp2_with fail
    rw [← hW4]
    have HW5 : Hid (Below W4.heap.size W4 (W4.alloc (.cells #[] 2))) := Lib.hid ((Below.refl _ _).alloc (Nat.le_refl _) _)
    have OL : Hid ((W4.alloc (.cells #[] 2)).ownsRow W4.heap.size 2 1 (.slice (some ⟨W4.heap.size, 0, none⟩) 0 0) 0 (iv ((Fw.gn zs Z).take 0))) := Lib.hid (World.ownsRow_lit _ _ _ (Nat.le_refl _) (by decide) (by decide))
    have hsl : w2.heap.size + 1 = W4.heap.size := hw2.symm
    try rw [hsl]
    clear hW4 hw2 hsl
    go_loopw [10, 11] (fun o i wr => ∃ (k g' cap' : Nat), k ≤ zs.length ∧ i = .int .i64 k ∧ o = .slice (some ⟨g', 0, none⟩) k cap' ∧ Hid (wr.ownsRow W4.heap.size 2 1 (.slice (some ⟨g', 0, none⟩) k cap') k (iv ((Fw.gn zs Z).take k))) ∧ Hid (Below W4.heap.size W4 wr)) (fun _ i _ => zs.length - (intOf i).toNat)
    case atStart => exact ⟨0, W4.heap.size, 0, Nat.zero_le _, rfl, rfl, OL, HW5⟩
    case round =>
      obtain ⟨k, g', cap2, hk, rfl, rfl, ho, hb⟩ := hrel
      obtain ⟨k1, k2, k3, k4⟩ := KK.out wr hb.out
      obtain ⟨x0, x1, x2⟩ := k1.three
      obtain ⟨y0, y1, y2⟩ := k2.three
      by_cases hlt : k < zs.length
      · have hltz : (k : Int) < (zs.length : Int) := by omega
        have hkZ : k < Z.length := by have := HL.out; omega
        have hkz2 : (k : Int) < (Z.length : Int) := by omega
        have hk0 : (0 : Int) ≤ (k : Int) := by omega
        have c1 := k3 k hlt
        have c2 := k4 k hkZ
        have hn := Lib.hid (Fw.gn_take HL.out hlt hkZ)
        obtain ⟨e1, e2⟩ := Fw.get_bd hzs.out hlt
        obtain ⟨e3, e4⟩ := Fw.get_bd HMS.out hkZ
        have hwp : IntKind.i64.wrap (Z[k] - zs[k]) = Z[k] - zs[k] := IntWalk.i64_in _ (by omega)
        have KC : Hid (∀ W, Below W4.heap.size W4 W → (W.cell? ⟨w.heap.size, 2, none⟩ = some (.slice (some ⟨vb, 0, none⟩) zs.length vcap) ∧ W.cell? ⟨w2.heap.size, 2, none⟩ = some (.slice (some ⟨g, 0, none⟩) Z.length cap)) ∧ W.cell? ⟨vb, k, none⟩ = some (.int .i64 zs[k]) ∧ W.cell? ⟨g, k, none⟩ = some (.int .i64 Z[k])) := Lib.hid (fun W h => by
          obtain ⟨q1, q2, q3, q4⟩ := KK.out W h
          exact ⟨⟨q1.c2, q2.c2⟩, q3 k hlt, q4 k hkZ⟩)
        have nx0 := World.new_ne wr ⟨w.heap.size, 2, none⟩ x2
        have nx1 := World.new_ne wr ⟨w2.heap.size, 2, none⟩ y2
        have nx2 := World.new_ne wr ⟨vb, k, none⟩ c1
        have nx3 := World.new_ne wr ⟨g, k, none⟩ c2
        have hbs := hb.out.size
        clear k1 k2 k3 k4 x0 x1 y0 y1
        generalize zs[k] = z at *
        generalize Z[k] = z2 at *
        go_wp2_with fail
        go_region_held3 (fun w' => (w'.cell? ⟨w.heap.size, 2, none⟩ = some (.slice (some ⟨vb, 0, none⟩) zs.length vcap) ∧ w'.cell? ⟨w2.heap.size, 2, none⟩ = some (.slice (some ⟨g, 0, none⟩) Z.length cap)) ∧ w'.cell? ⟨vb, k, none⟩ = some (.int .i64 z) ∧ w'.cell? ⟨g, k, none⟩ = some (.int .i64 z2)) (go_keep)
          ((refine step_append_lies _ (by rfl) _ _ 22 (by rfl) W4.heap.size 2 i0 _ 1 8 Tryd.underlying22 hi hz0 hz1 hz2 rfl (by decide) (.slice (some ⟨g', 0, none⟩) k cap2) k (iv ((Fw.gn zs Z).take k)) (by rfl) (own_belowAll ho.out (bdA wr _)) ⟨wr.heap.size, 0, none⟩ 1 1 [.int .i64 (z2 - z)] (by rfl) (by rfl) (one_new wr _ _) (iv_cell [z2 - z]) (by decide) (by unfold maxLen; omega) (by omega) (by simp; omega) _ rfl ?_; intro g4 cap4 w5 hown hgrow hat hlt5; have b5 : Below W4.heap.size W4 w5 := ((hb.out.trans ((bdA wr _).mono hb.out.size))).grown hgrow (by simp; omega) (fun j hj => (World.ownsRow.lt ho.out j hj).1); obtain ⟨⟨p0, p1⟩, p2, p3⟩ := KC.out w5 b5))
        have O5 : Hid (w5.ownsRow W4.heap.size 2 1 (.slice (some ⟨g4, 0, none⟩) (k + 1) cap4) (k + 1) (iv ((Fw.gn zs Z).take (k + 1)))) := Lib.hid (by rw [hn.out, iv_append]; exact hown)
        have B5 := Lib.hid b5
        clear hown hgrow hat hlt5 b5 p0 p1 p2 p3
        go_wp2_with fail
        exact ⟨⟨k + 1, g4, cap4, by omega, by go_num, rfl, O5, B5⟩, by simp only [intOf]; omega⟩
      · have hltz : ¬ (k : Int) < (zs.length : Int) := by omega
        have hkz : k = zs.length := by omega
        have HE : Hid (Own w.heap.size wr (.slice (some ⟨g', 0, none⟩) k cap2) G) := Lib.hid (by
          have h := ho.out
          have hgl2 := Fw.gn_length HL.out
          rw [hkz, ← hgl2, List.take_length, ← hg.out] at h
          unfold Own
          rw [hkz, ← hgl2, ← hg.out]
          exact Go.Joins.ownsRow_le h (by have := hsz.out; have := B4.out.size; omega))
        clear hkz ho
        go_wp2
        go_ret2
        exact ⟨_, rfl, HE.out, bt HB.out (bt B4.out hb.out)⟩
  · have hz := Lib.hid (Fw.dgZ_no hc)
    have hcb : (Fw.drC r c zs ds s != 0) = true := by simpa using hc
    clear hc
    generalize Fw.dgZ r c zs ds s = G at *
    generalize Fw.drZ r c zs ds s = Z at *
    generalize Fw.drR r c zs ds s = R at *
    generalize Fw.drK r c zs ds s = K at *
    generalize Fw.drC r c zs ds s = code at *
    go_enter Tryd.func21, Tryd.ntmps21
    go_wp2_with fail
    rw [← hbx, ← hW1]
    clear hbx hW1
    refine C.out.mono ?_
    rintro e w2 ⟨a, cap, rfl, o2, b2⟩
    have B2 := Lib.hid (bt HB.out b2)
    clear o2 b2
    go_wp2_with fail
    go_ret2
    exact ⟨_, rfl, by rw [hz.out]; exact Own.nil _ _, bt B2.out ((Below.refl _ _).alloc (Nat.le_refl _) _)⟩
end Go.Proofs.YtmidihmbehaegaaDoor

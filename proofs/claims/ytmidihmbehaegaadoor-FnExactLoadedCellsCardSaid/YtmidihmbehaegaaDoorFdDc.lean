/-
  DriftGain of chapter 6 by the program. Its condition: impl.leeWays holds what the program's text lays.
-/
import Derived.Test.YtmidihmbehaegaaDoorFdW
import Derived.Test.YtmidihmbehaegaaDoorFdDa
import Derived.Deep.AppendLies
namespace Go.Proofs.YtmidihmbehaegaaDoor
open Go.RowKit Go.Shelf Go.Deep Go.Maps Go.WideShapes
set_option linter.unusedVariables false
set_option maxRecDepth 100000

/-- how a call ends that answers numbers and a code -/
def RZC (w : World) (l : List Int) (c : Int) (e : Ending) (w' : World) : Prop := ∃ u, e = .returned (.tuple #[u, .int .i64 c]) ∧ Own w.heap.size w' u l ∧ Below w.heap.size w w'
set_option maxHeartbeats 6400000 in
theorem implDriftGain_any (w : World) (r c : Int) (v : Value) (zs : List Int) (u : Value) (ds : List Int) (s : Int) (ho : IAt w v zs) (hl : zs.length ≤ 1048576) (hu : Sl w u ds) (hl2 : ds.length ≤ 1048576) (hw : WaysAt w) :
    Calls Tryd.prog 22 #[.agg #[.int .i64 r, .int .i64 c, v], u, .int .i64 s] w (RZC w (Fw.dgZ r c zs ds s) (Fw.drC r c zs ds s)) := by
  obtain ⟨ua, ucap, rfl⟩ := hu.form
  obtain ⟨W1, hW1⟩ : ∃ W, W = boxF w r c v 26 := ⟨_, rfl⟩
  have HB : Hid (Below w.heap.size w W1) := Lib.hid (by rw [hW1]; exact boxF_below ..)
  have C := Lib.hid (implDriftRun_any W1 r c v zs (.slice ua ds.length ucap) ds s (ho.all HB.out) hl (hu.below HB.out) hl2 (hw.below HB.out))
  have K0 : Hid (∀ W, Below W1.heap.size W1 W → FC W w.heap.size r c v) := Lib.hid (fun W h => by
    have k := boxF_cells w r c v 26
    rw [← hW1] at k
    exact k.all h)
  have HO := Lib.hid ho
  obtain ⟨vB, vb, vcap, rfl, hvo⟩ := ho
  have hbx : boxF w r c (.slice (some ⟨vb, 0, none⟩) zs.length vcap) 26 = w.alloc (.cells #[.int .i64 r, .int .i64 c, .slice (some ⟨vb, 0, none⟩) zs.length vcap] 26) := rfl
  have hsz : Hid (W1.heap.size = w.heap.size + 1) := Lib.hid (by rw [hW1]; exact boxF_size ..)
  clear hvo hu hw
  by_cases hc : Fw.drC r c zs ds s = 0
  · obtain ⟨hok, hms, hlen, -⟩ := Fw.dr_fine hc
    have hzs := Lib.hid ((Fw.ok_iff _ _ _).1 hok).2
    have hn := Fw.fits_len ((Fw.ok_iff _ _ _).1 hok).1
    have hg := Lib.hid (Fw.dgZ_0 hc)
    have HMS := Lib.hid hms
    rw [hc] at C ⊢
    clear hc hok hms
    generalize Fw.dgZ r c zs ds s = G at *
    generalize Fw.drZ r c zs ds s = Z at *
    generalize Fw.drR r c zs ds s = R at *
    generalize Fw.drK r c zs ds s = K at *
    have HL := Lib.hid hlen
    have hzl : Z.length ≤ 64 := by omega
    clear hlen
    go_enter Tryd.func22, Tryd.ntmps22
    go_wp2_with fail
    rw [← hbx, ← hW1]
    clear hbx hW1
    refine C.out.mono ?_
    rintro e w2 ⟨a, cap, rfl, o2, b2⟩
    obtain ⟨g, cap', hv, hgl, hgr⟩ := World.ownsRow.form o2 (by have := HL.out; omega)
    simp only [Value.slice.injEq] at hv
    obtain ⟨rfl, -, rfl⟩ := hv
    obtain ⟨W4, hW4⟩ : ∃ W, W = w2.alloc (.cells #[.int .i64 R, .int .i64 K, .slice (some ⟨g, 0, none⟩) Z.length cap] 26) := ⟨_, rfl⟩
    have bW : Below w2.heap.size w2 W4 := by rw [hW4]; exact (Below.refl _ _).alloc (Nat.le_refl _) _
    have B4 := Lib.hid (bt b2 bW)
    have O4 := Lib.hid (Own.belowAll o2 bW)
    have hgw : W1.heap.size ≤ g := hgl
    obtain ⟨y0, y1, y2⟩ := (K0.out w2 b2).three
    have hlt2 := (K0.out w2 b2).lt
    have kn : FC W4 w2.heap.size R K (.slice (some ⟨g, 0, none⟩) Z.length cap) := by rw [hW4]; exact boxF_cells w2 R K _ _
    clear o2 b2 hgl hgr bW kn C
    go_wp2_with fail
    rw [← hW4]
    clear hW4 y0 y1 y2 hlt2
    go_loopw [11, 12, 28] (fun _ _ i wr => ∃ k : Nat, k ≤ zs.length ∧ i = .int .i64 k ∧ Hid (Own W1.heap.size wr (.slice (some ⟨g, 0, none⟩) Z.length cap) (Fw.dgk zs Z k)) ∧ Hid (Below W1.heap.size W1 wr)) (fun _ _ i _ => zs.length - (intOf i).toNat)
    case atStart => exact ⟨0, Nat.zero_le _, rfl, Lib.hid (by rw [Fw.dgk_0]; exact O4.out), B4⟩
    case round =>
      obtain ⟨k, hk, rfl, hr, hb⟩ := hrel
      by_cases hlt : k < zs.length
      · have hltz : (k : Int) < (zs.length : Int) := by omega
        have hkZ : k < Z.length := by have := HL.out; omega
        have hkz2 : (k : Int) < (Z.length : Int) := by omega
        have hz := own_cell hr.out (Fw.dgk_at HL.out hkZ)
        have hfz := own_free hr.out k
        obtain ⟨vb', off, cap1, hvn, hbl, hcc⟩ := Sl.atI ((HO.out.all (bt HB.out hb.out)).sl) hlt
        simp only [Value.slice.injEq, Option.some.injEq, Addr.mk.injEq, and_true] at hvn
        obtain ⟨⟨rfl, rfl⟩, -, rfl⟩ := hvn
        have hv0 := hcc k hlt
        rw [Nat.zero_add] at hv0
        obtain ⟨e1, e2⟩ := Fw.get_bd hzs.out hlt
        obtain ⟨e3, e4⟩ := Fw.get_bd HMS.out hkZ
        have HN : Hid (Own W1.heap.size (wr.setCell ⟨g, k, none⟩ (.int .i64 (Z[k] - zs[k]))) (.slice (some ⟨g, 0, none⟩) Z.length cap) (Fw.dgk zs Z (k + 1))) := Lib.hid (by
          rw [← Fw.dgk_set HL.out hlt hkZ]; exact set_own hr.out k _)
        have HS : Hid (Below W1.heap.size W1 (wr.setCell ⟨g, k, none⟩ (.int .i64 (Z[k] - zs[k])))) := Lib.hid (hb.out.setCell (p := ⟨g, k, none⟩) hgw _)
        clear hr hb hcc
        generalize zs[k] = z at *
        generalize Z[k] = z2 at *
        go_wp2
        exact ⟨⟨k + 1, by omega, by go_num, HN, HS⟩, by simp only [intOf]; omega⟩
      · have hltz : ¬ (k : Int) < (zs.length : Int) := by omega
        have hkz : k = zs.length := by omega
        have HE : Hid (Own w.heap.size wr (.slice (some ⟨g, 0, none⟩) Z.length cap) G) := Lib.hid (by
          have h := hr.out
          rw [hkz, Fw.dgk_all HL.out, ← hg.out] at h
          exact Own.le h (by have := hsz.out; omega))
        clear hkz hr
        go_wp2
        go_ret2
        exact ⟨_, rfl, HE.out, bt HB.out hb.out⟩
  · have hz := Lib.hid (Fw.dgZ_no hc)
    have hcb : (Fw.drC r c zs ds s != 0) = true := by simpa using hc
    clear hc
    generalize Fw.dgZ r c zs ds s = G at *
    generalize Fw.drZ r c zs ds s = Z at *
    generalize Fw.drR r c zs ds s = R at *
    generalize Fw.drK r c zs ds s = K at *
    generalize Fw.drC r c zs ds s = code at *
    go_enter Tryd.func22, Tryd.ntmps22
    go_wp2_with fail
    rw [← hbx, ← hW1]
    clear hbx hW1
    refine C.out.mono ?_
    rintro e w2 ⟨a, cap, rfl, o2, b2⟩
    have B2 := Lib.hid (bt HB.out b2)
    clear o2 b2
    go_wp2_with fail
    go_ret2
    exact ⟨_, rfl, by rw [hz.out]; exact Own.nil _ _, bt B2.out ((Below.refl _ _).alloc (Nat.le_refl _) _)⟩
end Go.Proofs.YtmidihmbehaegaaDoor

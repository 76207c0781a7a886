/-
  The cells next to a cell of a grid, by the model (chapter 9). No condition of its own.
-/
import Derived.Test.YthcmpalbhaefbaaDoorGtb
import Derived.Test.YthcmpalbhaefbaaDoorPt
namespace Go.Proofs.YthcmpalbhaefbaaDoor
open Go.RowKit Go.Shelf
set_option linter.unusedVariables false
set_option maxRecDepth 100000

namespace Gw
/-- the cells next to a cell in the first n directions, each put to its place -/
def near (r c k : Int) : Nat → List Int
  | 0 => []
  | a + 1 => if goB r c k a = true then Ptq.pt (goC r c k a) (near r c k a) else near r c k a
theorem pt_len (n : Int) (zs : List Int) : (Ptq.pt n zs).length ≤ 2 * zs.length + 1 := by
  have := Ptq.ptF_len n zs zs.length (Nat.le_refl _)
  rw [List.take_length] at this
  unfold Ptq.pt
  split
  · omega
  · simp; omega
theorem near_len (r c k : Int) (a : Nat) (h : a ≤ 8) : (near r c k a).length ≤ 1000 := by
  have key : ∀ a, (near r c k a).length ≤ 2 ^ a - 1 := by
    intro a
    induction a with
    | zero => exact Nat.le_refl _
    | succ a ih =>
      have hp : 0 < 2 ^ a := Nat.pow_pos (by omega)
      rw [near, Nat.pow_succ]
      split
      · have := pt_len (goC r c k a) (near r c k a); omega
      · omega
  have h1 := key a
  have h2 : 2 ^ a ≤ 2 ^ 8 := Nat.pow_le_pow_right (by omega) h
  omega
theorem goC_neg {r c k : Int} {a : Nat} (h : goB r c k a = false) : goC r c k a = -1 := by unfold goC; rw [h]; rfl
theorem goC_pos {r c k : Int} {a : Nat} (h : goB r c k a = true) (h1 : 1 ≤ c) (h2 : c ≤ 8) (h3 : r ≤ 8) : 0 ≤ goC r c k a ∧ goC r c k a ≤ 63 := by
  have hd : goC r c k a = rwA c k a * c + clA c k a := by unfold goC; rw [if_pos h]
  unfold goB isAt at h
  rw [Bool.and_eq_true] at h
  obtain ⟨y1, y2⟩ := inB_iff.1 h.1
  obtain ⟨y3, y4⟩ := inB_iff.1 h.2
  obtain ⟨e1, e2, e3, e4⟩ := cell_bd (c := c) (a := rwA c k a) (b := clA c k a) y1 (by omega) y3 (by omega) h1 h2
  omega
end Gw
set_option maxHeartbeats 3200000 in
theorem l09Near_any (w : World) (b : Nat) (r c s k : Int) (v : Value) (hc : GC w b r c s v) (r1 : 1 ≤ r) (r2 : r ≤ 8) (c1 : 1 ≤ c) (c2 : c ≤ 8) (k1 : 0 ≤ k) (k2 : k ≤ 63) :
    Calls Tryd.prog 46 #[.pointer (some ⟨b, 0, none⟩), .int .i64 k] w (RJp w (Gw.near r c k 8)) := by
  have CG := Lib.hid (fun (a : Nat) (ha : a < 8) W (h : Below w.heap.size w W) => l09Go_any W b r c s k a v (hc.all h) r1 r2 c1 c2 k1 k2 ha)
  have HP := Lib.hid (fun (a : Nat) (h : Gw.goB r c k a = true) => Gw.goC_pos h c1 c2 r2)
  clear hc r1 r2 c1 c2 k1 k2
  have O1 : Hid (Own w.heap.size (w.alloc (.cells #[] 2)) (.slice (some ⟨w.heap.size, 0, none⟩) 0 0) (Gw.near r c k 0)) := Lib.hid (World.ownsRow_lit _ _ _ (Nat.le_refl _) (by decide) (by decide))
  have B1 := Lib.hid ((Below.refl w.heap.size w).alloc (Nat.le_refl _) (.cells #[] 2))
  go_enter Tryd.func46, Tryd.ntmps46
  go_wp2
  go_loopw [5, 6, 7] (fun u i _ wr => ∃ a : Nat, a ≤ 8 ∧ i = .int .i64 (a : Int) ∧ Hid (Own w.heap.size wr u (Gw.near r c k a)) ∧ Hid (Below w.heap.size w wr)) (fun _ i _ _ => 8 - (intOf i).toNat)
  case atStart => exact ⟨0, by omega, rfl, O1, B1⟩
  case round =>
    obtain ⟨a, ha, rfl, hO, hb⟩ := hrel
    clear O1 B1
    by_cases hlt : a < 8
    · have hltz : (a : Int) < 8 := by omega
      have C := Lib.hid (CG.out a hlt wr hb.out)
      have hnl := Gw.near_len r c k a ha
      cases hg : Gw.goB r c k a with
      | false =>
        have hn : Hid (Gw.near r c k (a + 1) = Gw.near r c k a) := Lib.hid (by rw [Gw.near, hg]; rfl)
        rw [Gw.goC_neg hg] at C
        clear hg
        go_wp2_with fail
        refine C.out.mono ?_
        rintro e w2 ⟨rfl, b2⟩
        have O2 := Lib.hid (own_belowAll hO.out b2)
        have B2 := Lib.hid (bt hb.out b2)
        clear b2 hO hb
        go_wp2_with fail
        exact ⟨⟨a + 1, by omega, by go_num, Lib.hid (by rw [hn.out]; exact O2.out), B2⟩, by simp only [intOf]; omega⟩
      | true =>
        have hn : Hid (Gw.near r c k (a + 1) = Ptq.pt (Gw.goC r c k a) (Gw.near r c k a)) := Lib.hid (by rw [Gw.near, if_pos hg])
        obtain ⟨q1, q2⟩ := HP.out a hg
        clear hg
        generalize Gw.goC r c k a = z at *
        go_wp2_with fail
        refine C.out.mono ?_
        rintro e w2 ⟨rfl, b2⟩
        have O2 := Lib.hid (own_belowAll hO.out b2)
        have B2 := Lib.hid (bt hb.out b2)
        obtain ⟨ua, ucap, rfl⟩ := (Own.sl O2.out).form
        have CP := Lib.hid (l00Put_any w2 _ (Gw.near r c k a) z (Own.sl O2.out) (by omega))
        clear b2 hO hb
        go_wp2_with fail
        refine CP.out.mono ?_
        rintro e w3 ⟨u3, rfl, o3, b3⟩
        have O3 := Lib.hid (Go.Joins.ownsRow_le o3 B2.out.size)
        have B3 := Lib.hid (bt B2.out b3)
        clear o3 b3
        go_wp2_with fail
        exact ⟨⟨a + 1, by omega, by go_num, Lib.hid (by rw [hn.out]; exact O3.out), B3⟩, by simp only [intOf]; omega⟩
    · have hltz : ¬ (a : Int) < 8 := by omega
      have ha8 : a = 8 := by omega
      subst ha8
      go_wp2
      go_ret
      exact ⟨_, rfl, hO.out, hb.out⟩
namespace Gw
theorem isCell_bd {r c k : Int} (h : isCell r c k = true) (r1 : 1 ≤ r) (r2 : r ≤ 8) (c1 : 1 ≤ c) (c2 : c ≤ 8) : 0 ≤ k ∧ k ≤ 63 := by
  unfold isCell at h
  obtain ⟨h1, h2⟩ := inB_iff.1 h
  have h3 := Int.mul_le_mul r2 c2 (show 0 ≤ c by omega) (show (0 : Int) ≤ 8 by omega)
  omega
def nbL (r c s : Int) (zs : List Int) (k : Int) : List Int := Cd.ls (ok r c s zs) (isCell r c k) (near r c k 8)
theorem nbL_len (r c s : Int) (zs : List Int) (k : Int) : (nbL r c s zs k).length ≤ 1048576 := Cd.ls_len (Nat.le_trans (near_len r c k 8 (Nat.le_refl _)) (by decide))
end Gw
/-- how a call ends that answers numbers and a code -/
def RIp (w : World) (l : List Int) (c : Int) (e : Ending) (w' : World) : Prop := ∃ u, e = .returned (.tuple #[u, .int .i64 c]) ∧ Own w.heap.size w' u l ∧ Below w.heap.size w w'
theorem RIp.no {w w' : World} {c : Int} (hb : Below w.heap.size w w') : RIp w [] c (.returned (.tuple #[.slice none 0 0, .int .i64 c])) w' := ⟨_, rfl, World.ownsRow_nil _ _ _ _, hb⟩
theorem RIp.yes {w w' : World} {u : Value} {l l' : List Int} {c c' : Int} (hl : l' = l) (hc : c = c') (ho : Own w.heap.size w' u l) (hb : Below w.heap.size w w') : RIp w l' c' (.returned (.tuple #[u, .int .i64 c])) w' := by
  subst hl hc; exact ⟨_, rfl, ho, hb⟩
set_option maxHeartbeats 1600000 in
theorem specNeighboursOf_any (w : World) (r c s : Int) (v : Value) (zs : List Int) (k : Int) (hv : Sl w v zs) (hl : zs.length ≤ 1048576) :
    Calls Tryd.prog 22 #[.agg #[.int .i64 r, .int .i64 c, .int .i64 s, v], .int .i64 k] w (RIp w (Gw.nbL r c s zs k) (Gw.askC r c s zs k)) := by
  have C := Lib.hid (l09Ask_any (boxG w r c s v 28) w.heap.size r c s k v zs (boxG_cells w r c s v 28) (hv.below (boxG_below w r c s v 28)) hl)
  have HB := Lib.hid (boxG_below w r c s v 28)
  have HK := Lib.hid (fun W (h : Below (boxG w r c s v 28).heap.size (boxG w r c s v 28) W) => (boxG_kept h : GC W w.heap.size r c s v))
  clear hv
  unfold Gw.askC at C ⊢
  unfold Gw.nbL
  cases hq : Gw.ok r c s zs with
  | false =>
    rw [hq, Cd.cd_f] at C
    rw [Cd.ls_f, Cd.cd_f]
    clear hq
    go_enter Tryd.func22, Tryd.ntmps22
    go_wp2_with fail
    refine C.out.mono ?_
    rintro e w1 ⟨rfl, b1⟩
    have B1 := Lib.hid (bt HB.out b1)
    clear b1
    go_wp2_with fail
    go_ret2
    exact RIp.no B1.out
  | true =>
    cases hi : Gw.isCell r c k with
    | false =>
      rw [hq, hi, Cd.cd_tf] at C
      rw [Cd.ls_tf, Cd.cd_tf]
      clear hq hi
      go_enter Tryd.func22, Tryd.ntmps22
      go_wp2_with fail
      refine C.out.mono ?_
      rintro e w1 ⟨rfl, b1⟩
      have B1 := Lib.hid (bt HB.out b1)
      clear b1
      go_wp2_with fail
      go_ret2
      exact RIp.no B1.out
    | true =>
      have G := (Gw.ok_iff _ _ _ _).1 hq
      obtain ⟨k1, k2⟩ := Gw.isCell_bd hi G.r1 G.r2 G.c1 G.c2
      have CN := Lib.hid (fun W (h : Below (boxG w r c s v 28).heap.size (boxG w r c s v 28) W) => l09Near_any W w.heap.size r c s k v (HK.out W h) G.r1 G.r2 G.c1 G.c2 k1 k2)
      rw [hq, hi, Cd.cd_t] at C
      rw [Cd.ls_t, Cd.cd_t]
      clear hq hi G k1 k2
      go_enter Tryd.func22, Tryd.ntmps22
      go_wp2_with fail
      refine C.out.mono ?_
      rintro e w1 ⟨rfl, b1⟩
      have B1 := Lib.hid (bt HB.out b1)
      have N1 := Lib.hid b1
      clear b1
      go_wp2_with fail
      refine (CN.out _ N1.out).mono ?_
      rintro e w2 ⟨u, rfl, o2, b2⟩
      have O2 := Lib.hid (Go.Joins.ownsRow_le o2 B1.out.size)
      have B2 := Lib.hid (bt B1.out b2)
      clear o2 b2
      obtain ⟨ua, ucap, rfl⟩ := (Own.sl O2.out).form
      go_wp2_with fail
      go_ret2
      exact RIp.yes rfl rfl O2.out B2.out
end Go.Proofs.YthcmpalbhaefbaaDoor

/-
  A field before its first step, by the program (chapter 6). No condition of its own.
-/
import Derived.Test.YtmidihmbehaegaaDoorFdK
import Derived.Deep.OwnRows
namespace Go.Proofs.YtmidihmbehaegaaDoor
open Go.RowKit Go.Shelf Go.Deep Go.Maps Go.WideShapes
set_option linter.unusedVariables false
set_option maxRecDepth 100000

theorem bdA2 (w : World) (o o' : Obj) : Below w.heap.size w ((w.alloc o).alloc o').drew := bt (((Below.refl _ _).alloc (Nat.le_refl _) o).alloc (by simp) o') (bdr1 _)
theorem made_iv (n : Nat) : (madeCells #[.int .i64 0] n).toList = iv (List.replicate n 0) := by
  have : List.map (fun x => [Value.int IntKind.i64 0][x % 1]?.getD default) (List.range n) = List.replicate n (Value.int IntKind.i64 0) := by
    rw [List.eq_replicate_iff]
    refine ⟨by simp, fun b hb => ?_⟩
    obtain ⟨x, _, rfl⟩ := List.mem_map.1 hb
    rw [Nat.mod_one]; rfl
  unfold iv
  simp [madeCells, this]
def MapAt (w : World) (M : Nat) : Prop := w.heap[M]? = some (.map #[] 0)
theorem MapAt.new (w : World) : MapAt (w.alloc (.map #[] 0)) w.heap.size := heap_alloc_new w _
theorem MapAt.lt {w : World} {M : Nat} (h : MapAt w M) : M < w.heap.size := by
  unfold MapAt at h
  rcases Nat.lt_or_ge M w.heap.size with hlt | hge
  · exact hlt
  · rw [Array.getElem?_eq_none hge] at h; cases h
theorem MapAt.alloc {w : World} {M : Nat} (h : MapAt w M) (o : Obj) : MapAt (w.alloc o) M := (Below.heap_alloc w o M h.lt).trans h
theorem MapAt.all {w w' : World} {M : Nat} (h : MapAt w M) (hb : Below w.heap.size w w') : MapAt w' M := (hb.block M h.lt).trans h
theorem MapAt.owns {w : World} {M : Nat} (h : MapAt w M) : w.ownsMap Tryd.prog 2 (plainElem (H := Unit) Tryd.prog 4) M 0 (.map []) := by
  obtain ⟨es, clock, hb, F, hs, hD⟩ := World.ownsMap_made (H := Unit) w Tryd.prog 2 (plainElem (H := Unit) Tryd.prog 4)
  rw [heap_alloc_new w (.map #[] 0)] at hb
  simp only [Option.some.injEq, Obj.map.injEq] at hb
  obtain ⟨rfl, rfl⟩ := hb
  exact ⟨_, _, h, F, hs, hD⟩
theorem Whole.new1 (w : World) (o : Obj) (t : TypeId) (cs : Array Value) : Whole ((w.alloc o).alloc (.cells cs t)) (w.heap.size + 1) t cs := by
  have := Whole.new (w.alloc o) t cs
  rwa [show (w.alloc o).heap.size = w.heap.size + 1 by simp] at this
theorem Whole.new2 (w : World) (o o' : Obj) (t : TypeId) (cs : Array Value) : Whole (((w.alloc o).alloc o').alloc (.cells cs t)) (w.heap.size + 1 + 1) t cs := by
  have := Whole.new1 (w.alloc o) o' t cs
  rwa [show (w.alloc o).heap.size = w.heap.size + 1 by simp] at this
theorem MapAt.new1 (w : World) (o : Obj) : MapAt ((w.alloc o).alloc (.map #[] 0)) (w.heap.size + 1) := by
  have := MapAt.new (w.alloc o)
  rwa [show (w.alloc o).heap.size = w.heap.size + 1 by simp] at this
theorem made_own {B X n : Nat} {w : World} (h : Whole w X 2 (madeCells #[.int .i64 0] n)) (hB : B ≤ X) (hn : n ≤ 64) : Own B w (.slice (some ⟨X, 0, none⟩) n n) (List.replicate n 0) := by
  unfold Own
  rw [List.length_replicate]
  refine ⟨by rw [iv_length, List.length_replicate, Nat.mul_one], Or.inr ⟨X, n, _, rfl, hB, h, Nat.le_refl _, by unfold maxLen; omega, by rw [size_madeCells, Nat.mul_one], ?_⟩⟩
  rw [made_iv, List.take_of_length_le (by rw [iv_length, List.length_replicate]; omega)]
/-- what newDrifting leaves -/
def ND (w : World) (r c : Int) (zs : List Int) (e : Ending) (w' : World) : Prop :=
  ∃ p A ca X cb M, e = .returned (.pointer (some ⟨p, 0, none⟩)) ∧ DR w.heap.size w' p r c zs.length A ca X cb M zs (List.replicate zs.length 0) (.map []) 0 ∧ Below w.heap.size w w'
theorem ND.mk {w W : World} {r c : Int} {zs : List Int} {p g cap X M : Nat} (hl : zs.length ≤ 64) (hp : Whole W p 58 #[.int .i64 r, .int .i64 c, .slice (some ⟨g, 0, none⟩) zs.length cap, .slice (some ⟨X, 0, none⟩) zs.length zs.length, .map (some M)])
    (hg : Own w.heap.size W (.slice (some ⟨g, 0, none⟩) zs.length cap) zs) (hX : Whole W X 2 (madeCells #[.int .i64 0] zs.length)) (hM : MapAt W M) (hb : Below w.heap.size w W) (h1 : w.heap.size ≤ p) (h2 : w.heap.size ≤ X) (h3 : w.heap.size ≤ M) (h4 : g < p) (h5 : X < p) (h6 : M < p) (h7 : g ≠ X) (h8 : g ≠ M) (h9 : X ≠ M) :
    ND w r c zs (.returned (.pointer (some ⟨p, 0, none⟩))) W :=
  ⟨p, g, cap, X, zs.length, M, rfl, ⟨hp, hg, made_own hX h2 hl, hM.owns, h1, (World.ownsRow.lt hg g rfl).1, h2, h3, by omega, by omega, h7, by omega, h8, h9⟩, hb⟩
theorem ND.o1 {w w1 w2 : World} {r c : Int} {zs : List Int} {g cap : Nat} (hl : zs.length ≤ 64) (hb0 : Below w.heap.size w w1) (o2 : Own w1.drew.heap.size w2 (.slice (some ⟨g, 0, none⟩) zs.length cap) zs) (b2 : Below w1.drew.heap.size w1.drew w2) :
    ND w r c zs (.returned (.pointer (some ⟨w2.heap.size + 1 + 1, 0, none⟩))) (((w2.alloc (.cells (madeCells #[.int .i64 0] zs.length) 2)).alloc (.map #[] 0)).alloc (.cells #[.int .i64 r, .int .i64 c, .slice (some ⟨g, 0, none⟩) zs.length cap, .slice (some ⟨w2.heap.size, 0, none⟩) zs.length zs.length, .map (some (w2.heap.size + 1))] 58)) := by
  have bl : Below w1.heap.size w1 w2 := bt (bdr1 _) b2
  have l0 := hb0.size
  have l1 := bl.size
  obtain ⟨l2, l3⟩ := World.ownsRow.lt o2 g rfl
  have l4 := b2.size
  simp at l2 l4
  have ba : Below w2.heap.size w2 (((w2.alloc (.cells (madeCells #[.int .i64 0] zs.length) 2)).alloc (.map #[] 0)).alloc (.cells #[.int .i64 r, .int .i64 c, .slice (some ⟨g, 0, none⟩) zs.length cap, .slice (some ⟨w2.heap.size, 0, none⟩) zs.length zs.length, .map (some (w2.heap.size + 1))] 58)) := ((((Below.refl _ _).alloc (by simp; try omega) _).alloc (by simp; try omega) _).alloc (by simp; try omega) _)
  exact ND.mk hl (Whole.new2 w2 _ _ _ _) ((Own.le o2 (by simp; omega)).belowAll ba) (((Whole.new w2 _ _).alloc _).alloc _) ((MapAt.new1 w2 _).alloc _) (bt (bt hb0 bl) ba) (by omega) (by omega) (by omega) (by omega) (by omega) (by omega) (by omega) (by omega) (by omega)
theorem ND.o2 {w w1 w2 : World} {r c : Int} {zs : List Int} {g cap : Nat} (hl : zs.length ≤ 64) (hb0 : Below w.heap.size w w1) (o2 : Own w1.drew.heap.size w2 (.slice (some ⟨g, 0, none⟩) zs.length cap) zs) (b2 : Below w1.drew.heap.size w1.drew w2) :
    ND w r c zs (.returned (.pointer (some ⟨w2.heap.size + 1 + 1, 0, none⟩))) (((w2.alloc (.map #[] 0)).alloc (.cells (madeCells #[.int .i64 0] zs.length) 2)).alloc (.cells #[.int .i64 r, .int .i64 c, .slice (some ⟨g, 0, none⟩) zs.length cap, .slice (some ⟨(w2.heap.size + 1), 0, none⟩) zs.length zs.length, .map (some w2.heap.size)] 58)) := by
  have bl : Below w1.heap.size w1 w2 := bt (bdr1 _) b2
  have l0 := hb0.size
  have l1 := bl.size
  obtain ⟨l2, l3⟩ := World.ownsRow.lt o2 g rfl
  have l4 := b2.size
  simp at l2 l4
  have ba : Below w2.heap.size w2 (((w2.alloc (.map #[] 0)).alloc (.cells (madeCells #[.int .i64 0] zs.length) 2)).alloc (.cells #[.int .i64 r, .int .i64 c, .slice (some ⟨g, 0, none⟩) zs.length cap, .slice (some ⟨(w2.heap.size + 1), 0, none⟩) zs.length zs.length, .map (some w2.heap.size)] 58)) := ((((Below.refl _ _).alloc (by simp; try omega) _).alloc (by simp; try omega) _).alloc (by simp; try omega) _)
  exact ND.mk hl (Whole.new2 w2 _ _ _ _) ((Own.le o2 (by simp; omega)).belowAll ba) ((Whole.new1 w2 _ _ _).alloc _) (((MapAt.new w2).alloc _).alloc _) (bt (bt hb0 bl) ba) (by omega) (by omega) (by omega) (by omega) (by omega) (by omega) (by omega) (by omega) (by omega)
theorem ND.o3 {w w1 w2 : World} {r c : Int} {zs : List Int} {g cap : Nat} (hl : zs.length ≤ 64) (hb0 : Below w.heap.size w w1) (o2 : Own (w1.alloc (.cells (madeCells #[.int .i64 0] zs.length) 2)).drew.heap.size w2 (.slice (some ⟨g, 0, none⟩) zs.length cap) zs) (b2 : Below (w1.alloc (.cells (madeCells #[.int .i64 0] zs.length) 2)).drew.heap.size (w1.alloc (.cells (madeCells #[.int .i64 0] zs.length) 2)).drew w2) :
    ND w r c zs (.returned (.pointer (some ⟨w2.heap.size + 1, 0, none⟩))) ((w2.alloc (.map #[] 0)).alloc (.cells #[.int .i64 r, .int .i64 c, .slice (some ⟨g, 0, none⟩) zs.length cap, .slice (some ⟨w1.heap.size, 0, none⟩) zs.length zs.length, .map (some w2.heap.size)] 58)) := by
  have bl : Below w1.heap.size w1 w2 := bt (bdA _ _) b2
  have l0 := hb0.size
  have l1 := bl.size
  obtain ⟨l2, l3⟩ := World.ownsRow.lt o2 g rfl
  have l4 := b2.size
  simp at l2 l4
  have ba : Below w2.heap.size w2 ((w2.alloc (.map #[] 0)).alloc (.cells #[.int .i64 r, .int .i64 c, .slice (some ⟨g, 0, none⟩) zs.length cap, .slice (some ⟨w1.heap.size, 0, none⟩) zs.length zs.length, .map (some w2.heap.size)] 58)) := (((Below.refl _ _).alloc (by simp; try omega) _).alloc (by simp; try omega) _)
  exact ND.mk hl (Whole.new1 w2 _ _ _) ((Own.le o2 (by simp; omega)).belowAll ba) (((Whole.all (w := (w1.alloc (.cells (madeCells #[.int .i64 0] zs.length) 2)).drew) (Whole.new w1 _ _) b2).alloc _).alloc _) ((MapAt.new w2).alloc _) (bt (bt hb0 bl) ba) (by omega) (by omega) (by omega) (by omega) (by omega) (by omega) (by omega) (by omega) (by omega)
theorem ND.o4 {w w1 w2 : World} {r c : Int} {zs : List Int} {g cap : Nat} (hl : zs.length ≤ 64) (hb0 : Below w.heap.size w w1) (o2 : Own (w1.alloc (.map #[] 0)).drew.heap.size w2 (.slice (some ⟨g, 0, none⟩) zs.length cap) zs) (b2 : Below (w1.alloc (.map #[] 0)).drew.heap.size (w1.alloc (.map #[] 0)).drew w2) :
    ND w r c zs (.returned (.pointer (some ⟨w2.heap.size + 1, 0, none⟩))) ((w2.alloc (.cells (madeCells #[.int .i64 0] zs.length) 2)).alloc (.cells #[.int .i64 r, .int .i64 c, .slice (some ⟨g, 0, none⟩) zs.length cap, .slice (some ⟨w2.heap.size, 0, none⟩) zs.length zs.length, .map (some w1.heap.size)] 58)) := by
  have bl : Below w1.heap.size w1 w2 := bt (bdA _ _) b2
  have l0 := hb0.size
  have l1 := bl.size
  obtain ⟨l2, l3⟩ := World.ownsRow.lt o2 g rfl
  have l4 := b2.size
  simp at l2 l4
  have ba : Below w2.heap.size w2 ((w2.alloc (.cells (madeCells #[.int .i64 0] zs.length) 2)).alloc (.cells #[.int .i64 r, .int .i64 c, .slice (some ⟨g, 0, none⟩) zs.length cap, .slice (some ⟨w2.heap.size, 0, none⟩) zs.length zs.length, .map (some w1.heap.size)] 58)) := (((Below.refl _ _).alloc (by simp; try omega) _).alloc (by simp; try omega) _)
  exact ND.mk hl (Whole.new1 w2 _ _ _) ((Own.le o2 (by simp; omega)).belowAll ba) ((Whole.new w2 _ _).alloc _) (((MapAt.all (w := (w1.alloc (.map #[] 0)).drew) (MapAt.new w1) b2).alloc _).alloc _) (bt (bt hb0 bl) ba) (by omega) (by omega) (by omega) (by omega) (by omega) (by omega) (by omega) (by omega) (by omega)
theorem ND.o5 {w w1 w2 : World} {r c : Int} {zs : List Int} {g cap : Nat} (hl : zs.length ≤ 64) (hb0 : Below w.heap.size w w1) (o2 : Own ((w1.alloc (.cells (madeCells #[.int .i64 0] zs.length) 2)).alloc (.map #[] 0)).drew.heap.size w2 (.slice (some ⟨g, 0, none⟩) zs.length cap) zs) (b2 : Below ((w1.alloc (.cells (madeCells #[.int .i64 0] zs.length) 2)).alloc (.map #[] 0)).drew.heap.size ((w1.alloc (.cells (madeCells #[.int .i64 0] zs.length) 2)).alloc (.map #[] 0)).drew w2) :
    ND w r c zs (.returned (.pointer (some ⟨w2.heap.size, 0, none⟩))) (w2.alloc (.cells #[.int .i64 r, .int .i64 c, .slice (some ⟨g, 0, none⟩) zs.length cap, .slice (some ⟨w1.heap.size, 0, none⟩) zs.length zs.length, .map (some (w1.heap.size + 1))] 58)) := by
  have bl : Below w1.heap.size w1 w2 := bt (bdA2 _ _ _) b2
  have l0 := hb0.size
  have l1 := bl.size
  obtain ⟨l2, l3⟩ := World.ownsRow.lt o2 g rfl
  have l4 := b2.size
  simp at l2 l4
  have ba : Below w2.heap.size w2 (w2.alloc (.cells #[.int .i64 r, .int .i64 c, .slice (some ⟨g, 0, none⟩) zs.length cap, .slice (some ⟨w1.heap.size, 0, none⟩) zs.length zs.length, .map (some (w1.heap.size + 1))] 58)) := ((Below.refl _ _).alloc (by simp; try omega) _)
  exact ND.mk hl (Whole.new w2 _ _) ((Own.le o2 (by simp; omega)).belowAll ba) ((Whole.all (w := ((w1.alloc (.cells (madeCells #[.int .i64 0] zs.length) 2)).alloc (.map #[] 0)).drew) ((Whole.new w1 _ _).alloc _) b2).alloc _) ((MapAt.all (w := ((w1.alloc (.cells (madeCells #[.int .i64 0] zs.length) 2)).alloc (.map #[] 0)).drew) (MapAt.new1 w1 _) b2).alloc _) (bt (bt hb0 bl) ba) (by omega) (by omega) (by omega) (by omega) (by omega) (by omega) (by omega) (by omega) (by omega)
theorem ND.o6 {w w1 w2 : World} {r c : Int} {zs : List Int} {g cap : Nat} (hl : zs.length ≤ 64) (hb0 : Below w.heap.size w w1) (o2 : Own ((w1.alloc (.map #[] 0)).alloc (.cells (madeCells #[.int .i64 0] zs.length) 2)).drew.heap.size w2 (.slice (some ⟨g, 0, none⟩) zs.length cap) zs) (b2 : Below ((w1.alloc (.map #[] 0)).alloc (.cells (madeCells #[.int .i64 0] zs.length) 2)).drew.heap.size ((w1.alloc (.map #[] 0)).alloc (.cells (madeCells #[.int .i64 0] zs.length) 2)).drew w2) :
    ND w r c zs (.returned (.pointer (some ⟨w2.heap.size, 0, none⟩))) (w2.alloc (.cells #[.int .i64 r, .int .i64 c, .slice (some ⟨g, 0, none⟩) zs.length cap, .slice (some ⟨(w1.heap.size + 1), 0, none⟩) zs.length zs.length, .map (some w1.heap.size)] 58)) := by
  have bl : Below w1.heap.size w1 w2 := bt (bdA2 _ _ _) b2
  have l0 := hb0.size
  have l1 := bl.size
  obtain ⟨l2, l3⟩ := World.ownsRow.lt o2 g rfl
  have l4 := b2.size
  simp at l2 l4
  have ba : Below w2.heap.size w2 (w2.alloc (.cells #[.int .i64 r, .int .i64 c, .slice (some ⟨g, 0, none⟩) zs.length cap, .slice (some ⟨(w1.heap.size + 1), 0, none⟩) zs.length zs.length, .map (some w1.heap.size)] 58)) := ((Below.refl _ _).alloc (by simp; try omega) _)
  exact ND.mk hl (Whole.new w2 _ _) ((Own.le o2 (by simp; omega)).belowAll ba) ((Whole.all (w := ((w1.alloc (.map #[] 0)).alloc (.cells (madeCells #[.int .i64 0] zs.length) 2)).drew) (Whole.new1 w1 _ _ _) b2).alloc _) ((MapAt.all (w := ((w1.alloc (.map #[] 0)).alloc (.cells (madeCells #[.int .i64 0] zs.length) 2)).drew) ((MapAt.new w1).alloc _) b2).alloc _) (bt (bt hb0 bl) ba) (by omega) (by omega) (by omega) (by omega) (by omega) (by omega) (by omega) (by omega) (by omega)
set_option maxHeartbeats 6400000 in
theorem newDrifting_any (w : World) (r c : Int) (v : Value) (zs : List Int) (hv : IAt w v zs) (hl : zs.length ≤ 64) :
    Calls Tryd.prog 40 #[.agg #[.int .i64 r, .int .i64 c, v]] w (ND w r c zs) := by
  have HB0 := Lib.hid (boxF_below w r c v 26)
  have K0 := Lib.hid (boxF_cells w r c v 26)
  have HV := Lib.hid (hv.all HB0.out)
  obtain ⟨B, vb, vcap, rfl, hvo⟩ := hv
  have hmk := fun W => run_make_row' (P := Tryd.prog) 22 2 (.int .i64 0) 8 Tryd.underlying22 info_i64 rfl .i64 .i64 zs.length (by omega) (by omega) W
  have hmh : ∀ (W : World), (Instr.makeMap 56 none).run Tryd.prog W = .ok (.map (some W.heap.size)) (W.alloc (.map #[] 0)) := fun W => by
    simp [Instr.makeMap]; try rfl
  clear hvo
  go_enter Tryd.func40, Tryd.ntmps40
  go_wp2_with fail
  have hbx : boxF w r c (.slice (some ⟨vb, 0, none⟩) zs.length vcap) 26 = w.alloc (.cells #[.int .i64 r, .int .i64 c, .slice (some ⟨vb, 0, none⟩) zs.length vcap] 26) := rfl
  try rw [← hbx]
  clear hbx
  generalize boxF w r c (.slice (some ⟨vb, 0, none⟩) zs.length vcap) 26 = w1 at HB0 K0 HV ⊢
  have CO := Lib.hid (fun W (h : Below w1.heap.size w1 W) => cloneI_any W (.slice (some ⟨vb, 0, none⟩) zs.length vcap) zs (HV.out.all h) (by omega))
  have KK := Lib.hid (fun W (h : Below w1.heap.size w1 W) => (K0.out.all h).three)
  obtain ⟨x0, x1, x2⟩ := K0.out.three
  have nx0 := World.new_ne w1 _ x0
  have nx1 := World.new_ne w1 _ x1
  have nx2 := World.new_ne w1 _ x2
  have hlt := K0.out.lt
  go_region_held3 (fun w' => w'.cell? ⟨w.heap.size, 0, none⟩ = some (.int .i64 r) ∧ w'.cell? ⟨w.heap.size, 1, none⟩ = some (.int .i64 c) ∧ w'.cell? ⟨w.heap.size, 2, none⟩ = some (.slice (some ⟨vb, 0, none⟩) zs.length vcap)) (go_keep)
    ((go_at_call 57; refine (CO.out _ (by first | exact bdr1 _ | exact bdA _ _ | exact bdA2 _ _ _)).mono ?_; rintro e w2 ⟨g, cap, rfl, o2, b2⟩; have b20 : Below w1.heap.size w1 w2 := (by first | exact bt (bdr1 _) b2 | exact bt (bdA _ _) b2 | exact bt (bdA2 _ _ _) b2); obtain ⟨y0, y1, y2⟩ := KK.out w2 b20))
  all_goals (
    go_wp2_with fail
    go_ret
    first
      | exact ND.o1 hl HB0.out o2 b2
      | exact ND.o2 hl HB0.out o2 b2
      | exact ND.o3 hl HB0.out o2 b2
      | exact ND.o4 hl HB0.out o2 b2
      | exact ND.o5 hl HB0.out o2 b2
      | exact ND.o6 hl HB0.out o2 b2
    )
end Go.Proofs.YtmidihmbehaegaaDoor

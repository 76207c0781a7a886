/-
  One grid read back out of its text, by the model and by the program. The conditions of the program's side: the library's variables hold what their texts lay.
-/
import Derived.Test.YteileaeeiejonacDoorReadL
import Derived.Test.YteileaeeiejonacDoorGdV
import Derived.Test.YteileaeeiejonacDoorTkY
import Derived.Deep.RegionHeld3
namespace Go.Proofs.YteileaeeiejonacDoor
open Go.RowKit Go.ChangeShapes Go.WideShapes Go.Deep
set_option linter.unusedVariables false
set_option maxRecDepth 100000

namespace Gw
structure Grd where
  r : Int
  c : Int
  s : Int
  zs : List Int
def gz : Grd := ⟨0, 0, 0, []⟩
/-- the grid with these sides and heights -/
def g3 (hs : List Int) (ns : List Int) : Option Grd := match ns with
  | [a, b, c] => if ok a b c hs = true then some ⟨a, b, c, hs⟩ else none
  | _ => none
/-- the grid with a text -/
def rg (l : List UInt8) : Option Grd := (rl (Lib.cut l [58]).1).bind (g3 ((rl (Lib.cut l [58]).2.1).getD []))
theorem ok_nil (a b c : Int) : ok a b c [] = false := by
  rw [Bool.eq_false_iff]; intro h
  have g := (ok_iff _ _ _ _).1 h
  have := Fw.prod_le g.r1 g.r2 g.c1 g.c2
  have h2 := g.n
  simp only [List.length_nil] at h2
  omega
theorem g3_nil (ns : List Int) : g3 [] ns = none := by
  match ns with
  | [a, b, c] => simp [g3, ok_nil]
  | [] => rfl
  | [_] => rfl
  | [_, _] => rfl
  | _ :: _ :: _ :: _ :: _ => rfl
theorem g3_len {hs ns : List Int} (h : ns.length ≠ 3) : g3 hs ns = none := by
  match ns, h with
  | [a, b, c], h => simp at h
  | [], _ => rfl
  | [_], _ => rfl
  | [_, _], _ => rfl
  | _ :: _ :: _ :: _ :: _, _ => rfl
theorem g3_bad {hs : List Int} {a b c : Int} (h : ok a b c hs = false) : g3 hs [a, b, c] = none := by unfold g3; simp [h]
theorem g3_ok {hs : List Int} {a b c : Int} (h : ok a b c hs = true) : g3 hs [a, b, c] = some ⟨a, b, c, hs⟩ := by unfold g3; simp [h]
theorem bind_nil (o : Option (List Int)) : o.bind (g3 []) = none := by
  cases o with
  | none => rfl
  | some ns => exact g3_nil ns
theorem rg_one {l : List UInt8} (h : 58 ∉ l) : rg l = none := by
  unfold rg; rw [cut_miss h]; simp only []; rw [rl_nil]; exact bind_nil _
theorem rg_many {p r : List UInt8} (hp : 58 ∉ p) (hr : 58 ∈ r) : rg (p ++ 58 :: r) = none := by
  unfold rg; rw [cut_hit hp]; simp only []; rw [rl_odd hr (by decide) (by decide) (by decide)]; exact bind_nil _
theorem rg_two {p r : List UInt8} (hp : 58 ∉ p) : rg (p ++ 58 :: r) = (rl p).bind (g3 ((rl r).getD [])) := by
  unfold rg; rw [cut_hit hp]
theorem rg_len (l : List UInt8) : ((rg l).getD gz).zs.length ≤ 1048576 := by
  have key : ∀ (hs ns : List Int), ((g3 hs ns).getD gz).zs.length ≤ 1048576 := by
    intro hs ns
    match ns with
    | [a, b, c] =>
      cases hx : ok a b c hs with
      | true => rw [g3_ok hx]; have := ((ok_iff _ _ _ _).1 hx).len; simp; omega
      | false => rw [g3_bad hx]; simp [gz]
    | [] => simp [g3, gz]
    | [_] => simp [g3, gz]
    | [_, _] => simp [g3, gz]
    | _ :: _ :: _ :: _ :: _ => simp [g3, gz]
  unfold rg
  cases rl (Lib.cut l [58]).1 with
  | none => simp [gz]
  | some ns => exact key _ ns
theorem three {zs : List Int} (h : zs.length = 3) : ∃ a b c, zs = [a, b, c] := by
  match zs, h with
  | [a, b, c], _ => exact ⟨a, b, c, rfl⟩
end Gw
/-- what reading a grid leaves -/
def RG (w : World) (o : Option Gw.Grd) (e : Ending) (w' : World) : Prop :=
  ∃ u, e = .returned (.tuple #[.agg #[.int .i64 (o.getD Gw.gz).r, .int .i64 (o.getD Gw.gz).c, .int .i64 (o.getD Gw.gz).s, u], .bool o.isSome]) ∧ Own w.heap.size w' u (o.getD Gw.gz).zs ∧ Below w.heap.size w w'
theorem RG.no {w w' : World} {o : Option Gw.Grd} (ho : o = none) (hb : Below w.heap.size w w') : RG w o (.returned (.tuple #[.agg #[.int .i64 0, .int .i64 0, .int .i64 0, .slice none 0 0], .bool false])) w' := by
  subst ho; exact ⟨_, rfl, World.ownsRow_nil _ _ _ _, hb⟩
theorem RG.yes {w w' : World} {o : Option Gw.Grd} {a b c : Int} {zs : List Int} {u : Value} (ho : o = some ⟨a, b, c, zs⟩) (hu : Own w.heap.size w' u zs) (hb : Below w.heap.size w w') : RG w o (.returned (.tuple #[.agg #[.int .i64 a, .int .i64 b, .int .i64 c, u], .bool true])) w' := by
  subst ho; exact ⟨_, rfl, hu, hb⟩
def gcs (r c s : Int) (v : Value) : Array Value := #[.int .i64 r, .int .i64 c, .int .i64 s, v]
theorem gcs_four {w : World} {g : Nat} {t : TypeId} {r c s : Int} {v : Value} (h : Whole w g t (gcs r c s v)) : (w.cell? ⟨g, 0, none⟩ = some (.int .i64 r) ∧ w.cell? ⟨g, 1, none⟩ = some (.int .i64 c) ∧ w.cell? ⟨g, 2, none⟩ = some (.int .i64 s) ∧ w.cell? ⟨g, 3, none⟩ = some v) ∧
    (w.frozen? ⟨g, 0, none⟩ = false ∧ w.frozen? ⟨g, 1, none⟩ = false ∧ w.frozen? ⟨g, 2, none⟩ = false ∧ w.frozen? ⟨g, 3, none⟩ = false) :=
  ⟨⟨h.at_ 0, h.at_ 1, h.at_ 2, h.at_ 3⟩, h.free 0, h.free 1, h.free 2, h.free 3⟩
theorem gcs_gc {w : World} {g : Nat} {t : TypeId} {r c s : Int} {v : Value} (h : Whole w g t (gcs r c s v)) : GC w g r c s v := ⟨h.at_ 0, h.at_ 1, h.at_ 2, h.at_ 3⟩
theorem rl_lenG (l : List UInt8) : ((rl l).getD []).length ≤ 64 := by
  unfold rl
  split
  · simp
  · split
    · simp
    · rename_i h1 h2
      cases hm : mp (spl 44 l) with
      | none => simp
      | some zs => have := mp_len hm; simp; omega
theorem own_rowG {B : Nat} {w : World} {u : Value} {zs : List Int} (h : Own B w u zs) (hn : 0 < zs.length) :
    ∃ g cap, u = .slice (some ⟨g, 0, none⟩) zs.length cap ∧ ∀ j x, zs[j]? = some x → w.cell? ⟨g, j, none⟩ = some (.int .i64 x) := by
  obtain ⟨g, cap, rfl⟩ := Go.Joins.ownsRow_form h hn
  refine ⟨g, cap, rfl, fun j x hx => ?_⟩
  have hj : j < zs.length := (List.getElem?_eq_some_iff.1 hx).1
  rw [World.ownsRow.cellAt h j (by omega)]
  unfold iv
  rw [List.getElem?_map, hx]
  rfl
set_option maxHeartbeats 12800000 in
theorem implReadGrid_any (s : ByteArray) (w : World) (hs : s.size ≤ 1048576) (hpw : Pow w) (her : Errs w) (hml : MaxL w) :
    Calls Tryd.prog 18 #[.string s] w (RG w (Gw.rg s.data.toList)) := by
  unfold Gw.rg
  have HB := Lib.hid (boxG_below w 0 0 0 (.slice none 0 0) 29)
  have HK : Hid (∀ w1, Below (boxG w 0 0 0 (.slice none 0 0) 29).heap.size (boxG w 0 0 0 (.slice none 0 0) 29) w1 → Whole w1 w.heap.size 29 (gcs 0 0 0 (.slice none 0 0))) := Lib.hid (fun w1 h => (Whole.new w _ (gcs 0 0 0 (.slice none 0 0))).all h)
  have C := Lib.hid (cut_any s 58 (boxG w 0 0 0 (.slice none 0 0) 29) hs (hml.below HB.out))
  have HP := Lib.hid hpw
  have HE := Lib.hid her
  have HM := Lib.hid hml
  have hl := cut_len 58 s.data.toList
  have hsz : s.data.toList.length = s.size := by simp
  rw [hsz] at hl
  generalize (Lib.cut s.data.toList [58]).1 = p at *
  generalize (Lib.cut s.data.toList [58]).2.1 = r at *
  generalize (Lib.cut s.data.toList [58]).2.2 = q at *
  have CP := Lib.hid (fun W (h : Below w.heap.size w W) => implReadList_any ⟨p.toArray⟩ W (by rw [sz_mk]; omega) (HP.out.below h) (HE.out.below h) (HM.out.below h))
  have CR := Lib.hid (fun W (h : Below w.heap.size w W) => implReadList_any ⟨r.toArray⟩ W (by rw [sz_mk]; omega) (HP.out.below h) (HE.out.below h) (HM.out.below h))
  have hrr : (⟨r.toArray⟩ : ByteArray).data.toList = r := by simp
  have hpp : (⟨p.toArray⟩ : ByteArray).data.toList = p := by simp
  rw [hrr] at CR
  rw [hpp] at CP
  clear hpw her hml hsz hrr hpp
  have hln2 : ((rl r).getD []).length ≤ 1048576 := Nat.le_trans (rl_lenG r) (by omega)
  generalize rl r = oh at *
  generalize hrl : rl p = o at *
  unfold boxG at C HB HK
  cases o with
  | none =>
    have hr : Hid ((none : Option (List Int)).bind (Gw.g3 (oh.getD [])) = none) := Lib.hid rfl
    clear hrl CR
    go_enter Tryd.func18, Tryd.ntmps18
    go_wp2_with fail
    refine C.out.mono ?_
    rintro e w1 ⟨rfl, b1⟩
    have B1 := Lib.hid (bt HB.out b1)
    have K1 := Lib.hid (HK.out w1 b1)
    clear b1
    go_wp2_with fail
    refine (CP.out _ B1.out).mono ?_
    rintro e w2 ⟨u, rfl, ho, b2⟩
    have KW := Lib.hid (K1.out.all b2)
    have B2 := Lib.hid (bt B1.out b2)
    obtain ⟨ua, ucap, rfl⟩ := (Own.sl ho).form
    clear b2 ho
    have RW := Lib.hid (setG_whole KW.out 0 0 0 (.slice none 0 0))
    have RB := Lib.hid (setG_below B2.out (Nat.le_refl _) 0 0 0 (.slice none 0 0))
    obtain ⟨⟨z0, z1, z2, z3⟩, f0, f1, f2, f3⟩ := gcs_four KW.out
    go_wp2_with fail
    change bodyPost _ _ _ _ _ (setG w2 w.heap.size 0 0 0 (.slice none 0 0))
    generalize setG w2 w.heap.size 0 0 0 (.slice none 0 0) = WZ at *
    obtain ⟨⟨d0, d1, d2, d3⟩, -⟩ := gcs_four RW.out
    exact bodyPost_ret (v := .tuple #[.agg #[.int .i64 0, .int .i64 0, .int .i64 0, .slice none 0 0], .bool false]) (by simp [results, Tryd.results18, go_sem, d0, d1, d2, d3]) rfl (RG.no hr.out RB.out)
  | some zs =>
    by_cases hz : zs.length = 3
    · obtain ⟨a, b, c, rfl⟩ := Gw.three hz
      have hb0 : (some [a, b, c]).bind (Gw.g3 (oh.getD [])) = Gw.g3 (oh.getD []) [a, b, c] := rfl
      rw [hb0]
      clear hz hrl hb0
      go_enter Tryd.func18, Tryd.ntmps18
      go_wp2_with fail
      refine C.out.mono ?_
      rintro e w1 ⟨rfl, b1⟩
      have B1 := Lib.hid (bt HB.out b1)
      have K1 := Lib.hid (HK.out w1 b1)
      clear b1
      go_wp2_with fail
      refine (CP.out _ B1.out).mono ?_
      rintro e w2 ⟨u, rfl, ho, b2⟩
      have K2 := Lib.hid (K1.out.all b2)
      have B2 := Lib.hid (bt B1.out b2)
      obtain ⟨g, cap, rfl, hc⟩ := own_rowG ho (by simp)
      have e0 : w2.cell? ⟨g, 0, none⟩ = some (.int .i64 a) := hc 0 _ rfl
      have e1 : w2.cell? ⟨g, 1, none⟩ = some (.int .i64 b) := hc 1 _ rfl
      have e2 : w2.cell? ⟨g, 2, none⟩ = some (.int .i64 c) := hc 2 _ rfl
      have hln : ((some [a, b, c]).getD []).length = 3 := rfl
      rw [hln]
      have hg : g < w2.heap.size := World.block_lt_of_cell? w2 _ e0
      have hne : w2.heap.size ≠ g := Nat.ne_of_gt hg
      clear b2 ho hc hln
      go_wp2_with fail
      refine wp_region_held_drew (S := (fun w' => w'.cell? ⟨g, 0, none⟩ = some (.int .i64 a) ∧ w'.cell? ⟨g, 1, none⟩ = some (.int .i64 b) ∧ w'.cell? ⟨g, 2, none⟩ = some (.int .i64 c))) (by kernel_rfl) ?_ (fun hHeld => ?_)
      · (try dsimp only)
        first | done | go_keep
      refine wpAnyH_take (i := 0) (oi := ({ dst := some 29, op := Op.move (Operand.tmp 7), type := 24, pos := "l09_terrain.go:196", after := #[], guard := none } : Oper)) (v := ?_) rfl (by kernel_rfl) (by kernel_rfl) (by kernel_rfl) (fun _ _ _ h => h) (Or.inl ⟨by kernel_rfl, ?_⟩) (by assumption) ?_
      rotate_left
      · (intro w hSw; (try dsimp only at hSw); go_simp <;> with_reducible rfl)
      try simp only [Act.put, List.setIfInBounds_toArray, List.set_cons_zero, List.set_cons_succ]
      refine wpAnyH_take (i := 1) (oi := ({ dst := some 30, op := Op.indexAddr 24 (Operand.tmp 29) (Operand.const (Value.int IntKind.i64 0)), type := 0, pos := "l09_terrain.go:196", after := #[{ on := 0, ground := Ground.data }], guard := none } : Oper)) (v := ?_) rfl (by kernel_rfl) (by kernel_rfl) (by kernel_rfl) (fun _ _ _ h => h) (Or.inl ⟨by kernel_rfl, ?_⟩) (by assumption) ?_
      rotate_left
      · (intro w hSw; (try dsimp only at hSw); go_simp <;> with_reducible rfl)
      try simp only [Act.put, List.setIfInBounds_toArray, List.set_cons_zero, List.set_cons_succ]
      refine wpAnyH_take (i := 2) (oi := ({ dst := some 31, op := Op.load 2 (Operand.tmp 30), type := 2, pos := "l09_terrain.go:196", after := #[{ on := 1, ground := Ground.data }], guard := none } : Oper)) (v := ?_) rfl (by kernel_rfl) (by kernel_rfl) (by kernel_rfl) (fun _ _ _ h => h) (Or.inl ⟨by kernel_rfl, ?_⟩) (by assumption) ?_
      rotate_left
      · (intro w hSw; (try dsimp only at hSw); go_simp <;> with_reducible rfl)
      try simp only [Act.put, List.setIfInBounds_toArray, List.set_cons_zero, List.set_cons_succ]
      refine wpAnyH_take (i := 3) (oi := ({ dst := some 32, op := Op.move (Operand.tmp 7), type := 24, pos := "l09_terrain.go:196", after := #[], guard := none } : Oper)) (v := ?_) rfl (by kernel_rfl) (by kernel_rfl) (by kernel_rfl) (fun _ _ _ h => h) (Or.inl ⟨by kernel_rfl, ?_⟩) (by assumption) ?_
      rotate_left
      · (intro w hSw; (try dsimp only at hSw); go_simp <;> with_reducible rfl)
      try simp only [Act.put, List.setIfInBounds_toArray, List.set_cons_zero, List.set_cons_succ]
      refine wpAnyH_take (i := 4) (oi := ({ dst := some 33, op := Op.indexAddr 24 (Operand.tmp 32) (Operand.const (Value.int IntKind.i64 1)), type := 0, pos := "l09_terrain.go:196", after := #[{ on := 3, ground := Ground.data }], guard := none } : Oper)) (v := ?_) rfl (by kernel_rfl) (by kernel_rfl) (by kernel_rfl) (fun _ _ _ h => h) (Or.inl ⟨by kernel_rfl, ?_⟩) (by assumption) ?_
      rotate_left
      · (intro w hSw; (try dsimp only at hSw); go_simp <;> with_reducible rfl)
      try simp only [Act.put, List.setIfInBounds_toArray, List.set_cons_zero, List.set_cons_succ]
      refine wpAnyH_take (i := 5) (oi := ({ dst := some 34, op := Op.load 2 (Operand.tmp 33), type := 2, pos := "l09_terrain.go:196", after := #[{ on := 4, ground := Ground.data }], guard := none } : Oper)) (v := ?_) rfl (by kernel_rfl) (by kernel_rfl) (by kernel_rfl) (fun _ _ _ h => h) (Or.inl ⟨by kernel_rfl, ?_⟩) (by assumption) ?_
      rotate_left
      · (intro w hSw; (try dsimp only at hSw); go_simp <;> with_reducible rfl)
      try simp only [Act.put, List.setIfInBounds_toArray, List.set_cons_zero, List.set_cons_succ]
      refine wpAnyH_take (i := 6) (oi := ({ dst := some 35, op := Op.move (Operand.tmp 7), type := 24, pos := "l09_terrain.go:196", after := #[], guard := none } : Oper)) (v := ?_) rfl (by kernel_rfl) (by kernel_rfl) (by kernel_rfl) (fun _ _ _ h => h) (Or.inl ⟨by kernel_rfl, ?_⟩) (by assumption) ?_
      rotate_left
      · (intro w hSw; (try dsimp only at hSw); go_simp <;> with_reducible rfl)
      try simp only [Act.put, List.setIfInBounds_toArray, List.set_cons_zero, List.set_cons_succ]
      refine wpAnyH_take (i := 7) (oi := ({ dst := some 36, op := Op.indexAddr 24 (Operand.tmp 35) (Operand.const (Value.int IntKind.i64 2)), type := 0, pos := "l09_terrain.go:196", after := #[{ on := 6, ground := Ground.data }], guard := none } : Oper)) (v := ?_) rfl (by kernel_rfl) (by kernel_rfl) (by kernel_rfl) (fun _ _ _ h => h) (Or.inl ⟨by kernel_rfl, ?_⟩) (by assumption) ?_
      rotate_left
      · (intro w hSw; (try dsimp only at hSw); go_simp <;> with_reducible rfl)
      try simp only [Act.put, List.setIfInBounds_toArray, List.set_cons_zero, List.set_cons_succ]
      refine wpAnyH_take (i := 8) (oi := ({ dst := some 37, op := Op.load 2 (Operand.tmp 36), type := 2, pos := "l09_terrain.go:196", after := #[{ on := 7, ground := Ground.data }], guard := none } : Oper)) (v := ?_) rfl (by kernel_rfl) (by kernel_rfl) (by kernel_rfl) (fun _ _ _ h => h) (Or.inl ⟨by kernel_rfl, ?_⟩) (by assumption) ?_
      rotate_left
      · (intro w hSw; (try dsimp only at hSw); go_simp <;> with_reducible rfl)
      try simp only [Act.put, List.setIfInBounds_toArray, List.set_cons_zero, List.set_cons_succ]
      refine wpAnyH_take (i := 9) (oi := ({ dst := some 38, op := Op.build 29 #[(0, Operand.tmp 31), (1, Operand.tmp 34), (2, Operand.tmp 37)], type := 29, pos := "l09_terrain.go:196", after := #[{ on := 2, ground := Ground.data }, { on := 5, ground := Ground.data }, { on := 8, ground := Ground.data }], guard := none } : Oper)) (v := ?_) rfl (by kernel_rfl) (by kernel_rfl) (by kernel_rfl) (fun _ _ _ h => h) (Or.inl ⟨by kernel_rfl, ?_⟩) (by assumption) ?_
      rotate_left
      · (intro w hSw; (try dsimp only at hSw); go_simp <;> with_reducible rfl)
      try simp only [Act.put, List.setIfInBounds_toArray, List.set_cons_zero, List.set_cons_succ]
      refine wpAnyH_ready (rs := [10]) (by kernel_rfl) (by simp) ?_
      refine AllReadyH.cons (o := ({ dst := some 9, op := Op.alloc 29, type := 0, pos := "l09_terrain.go:196", after := #[], guard := none } : Oper)) rfl (fun K hK => ?_) ?_
      · go_simp
        refine hK.out _ _ ?_ (fun hHeld => ?_)
        · (try dsimp only)
          first | done | go_keep
        clear hK K
        try simp only [Act.put, List.setIfInBounds_toArray, List.set_cons_zero, List.set_cons_succ]
        refine wpAnyH_ready (rs := [11]) (by kernel_rfl) (by simp) ?_
        refine AllReadyH.cons (o := ({ dst := none, op := Op.store 29 (Operand.tmp 9) (Operand.tmp 38), type := 0, pos := "l09_terrain.go:196", after := #[{ on := 10, ground := Ground.data }, { on := 9, ground := Ground.data }, { on := 0, ground := Ground.phase }, { on := 1, ground := Ground.phase }, { on := 2, ground := Ground.phase }, { on := 3, ground := Ground.phase }, { on := 4, ground := Ground.phase }, { on := 5, ground := Ground.phase }, { on := 6, ground := Ground.phase }, { on := 7, ground := Ground.phase }, { on := 8, ground := Ground.phase }, { on := 9, ground := Ground.phase }, { on := 10, ground := Ground.phase }], guard := none } : Oper)) rfl (fun K hK => ?_) ?_
        · go_simp
          refine hK.out _ _ ?_ (fun hHeld => ?_)
          · (try dsimp only)
            first | done | go_keep
          clear hK K
          try simp only [Act.put, List.setIfInBounds_toArray, List.set_cons_zero, List.set_cons_succ]
          refine wpAnyH_done (by kernel_rfl) ?_ _
          have XW := Lib.hid (Whole.new w2.drew 29 (gcs a b c (.slice none 0 0)))
          have BX := Lib.hid ((show Below w2.heap.size w2 w2.drew from below_drewW _ 1).alloc (Nat.le_refl _) (.cells (gcs a b c (.slice none 0 0)) 29))
          change Exit.then _ _ _ _ ((w2.drew).alloc (.cells (gcs a b c (.slice none 0 0)) 29))
          have hX : Hid (Whole ((w2.drew).alloc (.cells (gcs a b c (.slice none 0 0)) 29)) w2.heap.size 29 (gcs a b c (.slice none 0 0))) := Lib.hid XW.out
          generalize (w2.drew).alloc (.cells (gcs a b c (.slice none 0 0)) 29) = W4 at *
          clear XW e0 e1 e2 hne hg
          have K4 := Lib.hid (K2.out.below BX.out K2.out.lt)
          have B4 := Lib.hid (bt B2.out BX.out)
          have hgX := Lib.hid (show w.heap.size < w2.heap.size from K2.out.lt)
          generalize w2.heap.size = gX at *
          go_wp2_with fail
          refine (CR.out _ B4.out).mono ?_
          rintro e w5 ⟨v, rfl, ov, b5⟩
          have hX5 := Lib.hid (hX.out.all b5)
          have K5 := Lib.hid (K4.out.all b5)
          have B5 := Lib.hid (bt B4.out b5)
          have OV := Lib.hid ov
          have hlt4 := Lib.hid hX.out.lt
          obtain ⟨va, vcap, rfl⟩ := (Own.sl ov).form
          have f3 := hX5.out.free 3
          have x3 : w5.cell? ⟨gX, 3, none⟩ = some (.slice none 0 0) := hX5.out.at_ 3
          have hX6 : Hid (Whole (w5.setCell ⟨gX, 3, none⟩ (.slice va (oh.getD []).length vcap)) gX 29 (gcs a b c (.slice va (oh.getD []).length vcap))) := Lib.hid (by
            have := hX5.out.put 3 (.slice va (oh.getD []).length vcap)
            simpa [gcs] using this)
          have G6 : Hid (w5.grownBy (w5.setCell ⟨gX, 3, none⟩ (.slice va (oh.getD []).length vcap)) (some gX)) := Lib.hid (only_setCell (World.grownBy.refl _ _) rfl _)
          have K6 := Lib.hid (K5.out.far G6.out (Nat.ne_of_lt hgX.out))
          have B6 : Hid (Below w.heap.size w (w5.setCell ⟨gX, 3, none⟩ (.slice va (oh.getD []).length vcap))) := Lib.hid (B5.out.setCell (p := ⟨gX, 3, none⟩) (Nat.le_of_lt hgX.out) _)
          have O6 := Lib.hid (own_far OV.out G6.out hlt4.out)
          obtain ⟨⟨y0, y1, y2, -⟩, -⟩ := gcs_four hX5.out
          clear b5 ov hX5 K5 B5 hX K4 G6 OV
          have CV := Lib.hid (implValidGrid_any _ a b c _ (oh.getD []) (Own.sl O6.out) hln2)
          have hgb := Lib.hid (fun h => Gw.g3_bad (hs := oh.getD []) (a := a) (b := b) (c := c) h)
          have hgo := Lib.hid (fun h => Gw.g3_ok (hs := oh.getD []) (a := a) (b := b) (c := c) h)
          generalize oh.getD [] = hs2 at *
          cases hx : Gw.ok a b c hs2 with
          | false =>
            have hr := Lib.hid (hgb.out hx)
            rw [hx] at CV
            clear hx hgb hgo
            go_wp2_with fail
            refine CV.out.mono ?_
            rintro e w7 ⟨rfl, b7⟩
            have KW := Lib.hid (K6.out.all b7)
            have B7 := Lib.hid (bt B6.out b7)
            clear b7 y0 y1 y2 x3 f3
            have RW := Lib.hid (setG_whole KW.out 0 0 0 (.slice none 0 0))
            have RB := Lib.hid (setG_below B7.out (Nat.le_refl _) 0 0 0 (.slice none 0 0))
            obtain ⟨⟨z0, z1, z2, z3⟩, f0, f1, f2, f3⟩ := gcs_four KW.out
            go_wp2_with fail
            change bodyPost _ _ _ _ _ (setG w7 w.heap.size 0 0 0 (.slice none 0 0))
            generalize setG w7 w.heap.size 0 0 0 (.slice none 0 0) = WZ at *
            obtain ⟨⟨d0, d1, d2, d3⟩, -⟩ := gcs_four RW.out
            exact bodyPost_ret (v := .tuple #[.agg #[.int .i64 0, .int .i64 0, .int .i64 0, .slice none 0 0], .bool false]) (by simp [results, Tryd.results18, go_sem, d0, d1, d2, d3]) rfl (RG.no hr.out RB.out)
          | true =>
            have hr := Lib.hid (hgo.out hx)
            rw [hx] at CV
            clear hx hgb hgo
            go_wp2_with fail
            refine CV.out.mono ?_
            rintro e w7 ⟨rfl, b7⟩
            have KW := Lib.hid (K6.out.all b7)
            have X7 := Lib.hid (hX6.out.all b7)
            have B7 := Lib.hid (bt B6.out b7)
            have O7 := Lib.hid (own_belowAll O6.out b7)
            clear b7 y0 y1 y2 x3 f3
            obtain ⟨⟨x0, x1, x2, x4⟩, -⟩ := gcs_four X7.out
            obtain ⟨⟨z0, z1, z2, z3⟩, f0, f1, f2, f3⟩ := gcs_four KW.out
            have RW := Lib.hid (setG_whole KW.out a b c (.slice va hs2.length vcap))
            have RB := Lib.hid (setG_below B7.out (Nat.le_refl _) a b c (.slice va hs2.length vcap))
            have O8 := Lib.hid (own_far O7.out (setG_only w7 w.heap.size a b c (.slice va hs2.length vcap)) (Nat.lt_trans hgX.out hlt4.out))
            have hle8 := Lib.hid (Nat.le_of_lt (Nat.lt_trans hgX.out hlt4.out))
            go_wp2_with fail
            change bodyPost _ _ _ _ _ (setG w7 w.heap.size a b c (.slice va hs2.length vcap))
            generalize setG w7 w.heap.size a b c (.slice va hs2.length vcap) = WZ at *
            obtain ⟨⟨d0, d1, d2, d3⟩, -⟩ := gcs_four RW.out
            exact bodyPost_ret (v := .tuple #[.agg #[.int .i64 a, .int .i64 b, .int .i64 c, .slice va hs2.length vcap], .bool true]) (by simp [results, Tryd.results18, go_sem, d0, d1, d2, d3]) rfl (RG.yes hr.out (Go.Joins.ownsRow_le O8.out hle8.out) RB.out)
        exact AllReadyH.nil
      exact AllReadyH.nil
    · have hr : Hid ((some zs).bind (Gw.g3 (oh.getD [])) = none) := Lib.hid (Gw.g3_len hz)
      have hz2 : ((zs.length : Int) != 3) = true := by rw [bne_iff_ne]; omega
      clear hrl hz
      go_enter Tryd.func18, Tryd.ntmps18
      go_wp2_with fail
      refine C.out.mono ?_
      rintro e w1 ⟨rfl, b1⟩
      have B1 := Lib.hid (bt HB.out b1)
      have K1 := Lib.hid (HK.out w1 b1)
      clear b1
      go_wp2_with fail
      refine (CP.out _ B1.out).mono ?_
      rintro e w2 ⟨u, rfl, ho, b2⟩
      have KW := Lib.hid (K1.out.all b2)
      have B2 := Lib.hid (bt B1.out b2)
      have hln : ((some zs).getD []).length = zs.length := rfl
      obtain ⟨ua, ucap, rfl⟩ := (Own.sl ho).form
      rw [hln]
      clear b2 ho hln
      have RW := Lib.hid (setG_whole KW.out 0 0 0 (.slice none 0 0))
      have RB := Lib.hid (setG_below B2.out (Nat.le_refl _) 0 0 0 (.slice none 0 0))
      obtain ⟨⟨z0, z1, z2, z3⟩, f0, f1, f2, f3⟩ := gcs_four KW.out
      go_wp2_with fail
      change bodyPost _ _ _ _ _ (setG w2 w.heap.size 0 0 0 (.slice none 0 0))
      generalize setG w2 w.heap.size 0 0 0 (.slice none 0 0) = WZ at *
      obtain ⟨⟨d0, d1, d2, d3⟩, -⟩ := gcs_four RW.out
      exact bodyPost_ret (v := .tuple #[.agg #[.int .i64 0, .int .i64 0, .int .i64 0, .slice none 0 0], .bool false]) (by simp [results, Tryd.results18, go_sem, d0, d1, d2, d3]) rfl (RG.no hr.out RB.out)
set_option maxHeartbeats 12800000 in
theorem specReadGrid_any (s : ByteArray) (w : World) (hs : s.size ≤ 1048576) :
    Calls Tryd.prog 17 #[.string s] w (RG w (Gw.rg s.data.toList)) := by
  have HB := Lib.hid (boxG_below w 0 0 0 (.slice none 0 0) 29)
  have HK : Hid (∀ w1, Below (boxG w 0 0 0 (.slice none 0 0) 29).heap.size (boxG w 0 0 0 (.slice none 0 0) 29) w1 → Whole w1 w.heap.size 29 (gcs 0 0 0 (.slice none 0 0))) := Lib.hid (fun w1 h => (Whole.new w _ (gcs 0 0 0 (.slice none 0 0))).all h)
  have C := Lib.hid (l01Split_any s 58 (boxG w 0 0 0 (.slice none 0 0) 29) hs)
  have hpl := spl_part_len 58 s.data.toList
  have hsl : s.data.toList.length = s.size := by simp
  rw [hsl] at hpl
  have hpos := List.length_pos_iff.2 (spl_ne 58 s.data.toList)
  unfold boxG at C HB HK
  rcases (show ((spl 58 s.data.toList).length ≠ 2 ∧ Gw.rg s.data.toList = none) ∨ ∃ p r, spl 58 s.data.toList = [p, r] ∧ Gw.rg s.data.toList = (rl p).bind (Gw.g3 ((rl r).getD [])) from by
    rcases spl_two 58 s.data.toList with ⟨h, hs⟩ | ⟨p, r, he, hp, _, hs⟩ | ⟨p, r, he, hp, hr, hs⟩
    · exact Or.inl ⟨by rw [hs]; simp, Gw.rg_one h⟩
    · exact Or.inr ⟨p, r, hs, by rw [he]; exact Gw.rg_two hp⟩
    · exact Or.inl ⟨by omega, by rw [he]; exact Gw.rg_many hp hr⟩) with ⟨h2, hr0⟩ | ⟨p, r, hP, hrg⟩
  · have hr := Lib.hid hr0
    have hz2 : (((spl 58 s.data.toList).length : Int) != 2) = true := by rw [bne_iff_ne]; omega
    clear hpl hsl hr0 h2
    generalize spl 58 s.data.toList = P at *
    generalize Gw.rg s.data.toList = o at *
    go_enter Tryd.func17, Tryd.ntmps17
    go_wp2_with fail
    refine C.out.mono ?_
    rintro e w1 ⟨v0, rfl, hst, b1⟩
    obtain ⟨gw, cap, rfl, hgw, hcw⟩ := strs_form hst hpos
    have B1 := Lib.hid (bt HB.out b1)
    have KW := Lib.hid (HK.out w1 b1)
    clear b1 hst hcw hgw
    have RW := Lib.hid (setG_whole KW.out 0 0 0 (.slice none 0 0))
    have RB := Lib.hid (setG_below B1.out (Nat.le_refl _) 0 0 0 (.slice none 0 0))
    obtain ⟨⟨z0, z1, z2, z3⟩, f0, f1, f2, f3⟩ := gcs_four KW.out
    go_wp2_with fail
    change bodyPost _ _ _ _ _ (setG w1 w.heap.size 0 0 0 (.slice none 0 0))
    generalize setG w1 w.heap.size 0 0 0 (.slice none 0 0) = WZ at *
    obtain ⟨⟨d0, d1, d2, d3⟩, -⟩ := gcs_four RW.out
    exact bodyPost_ret (v := .tuple #[.agg #[.int .i64 0, .int .i64 0, .int .i64 0, .slice none 0 0], .bool false]) (by simp [results, Tryd.results17, go_sem, d0, d1, d2, d3]) rfl (RG.no hr.out RB.out)
  · rw [hP] at C hpl hpos
    rw [hrg]
    have hrl1 : r.length ≤ s.size := hpl r (by simp)
    have hrl2 : p.length ≤ s.size := hpl p (by simp)
    have CP := Lib.hid (fun W => specReadList_any ⟨p.toArray⟩ W (by rw [sz_mk]; omega))
    have CR := Lib.hid (fun W => specReadList_any ⟨r.toArray⟩ W (by rw [sz_mk]; omega))
    have hrr : (⟨r.toArray⟩ : ByteArray).data.toList = r := by simp
    have hpp : (⟨p.toArray⟩ : ByteArray).data.toList = p := by simp
    rw [hrr] at CR
    rw [hpp] at CP
    have hln2 : ((rl r).getD []).length ≤ 1048576 := Nat.le_trans (rl_lenG r) (by omega)
    clear hsl hrr hpp hpl hP hrg hrl1 hrl2
    generalize rl r = oh at *
    generalize rl p = o at *
    cases o with
    | none =>
      have hr : Hid ((none : Option (List Int)).bind (Gw.g3 (oh.getD [])) = none) := Lib.hid rfl
      go_enter Tryd.func17, Tryd.ntmps17
      go_wp2_with fail
      refine C.out.mono ?_
      rintro e w1 ⟨v0, rfl, hst, b1⟩
      obtain ⟨gw, cap, rfl, hgw, hcw⟩ := strs_form hst hpos
      have k0 : w1.cell? ⟨gw, 0, none⟩ = some (.string ⟨p.toArray⟩) := hcw 0 _ rfl
      have k1 : w1.cell? ⟨gw, 1, none⟩ = some (.string ⟨r.toArray⟩) := hcw 1 _ rfl
      have B1 := Lib.hid (bt HB.out b1)
      have K1 := Lib.hid (HK.out w1 b1)
      clear b1 hst hcw
      go_wp2_with fail
      refine (CP.out _).mono ?_
      rintro e w2 ⟨u, rfl, ho, b2⟩
      have K2 := Lib.hid (K1.out.all b2)
      have B2 := Lib.hid (bt B1.out b2)
      have hlt2 := Lib.hid K2.out.lt
      have k2 : w2.cell? ⟨gw, 1, none⟩ = some (.string ⟨r.toArray⟩) := (b2.cell (p := ⟨gw, 1, none⟩) hgw).trans k1
      obtain ⟨ua, ucap, rfl⟩ := (Own.sl ho).form
      clear b2 k0 k1
      go_wp2_with fail
      refine (CR.out _).mono ?_
      rintro e w3 ⟨v, rfl, ov, b3⟩
      have K3 := Lib.hid (K2.out.all b3)
      have B3 := Lib.hid (bt B2.out b3)
      have KW := K3
      obtain ⟨va, vcap, rfl⟩ := (Own.sl ov).form
      clear b3 ov ho k2 K3
      have RW := Lib.hid (setG_whole KW.out 0 0 0 (.slice none 0 0))
      have RB := Lib.hid (setG_below B3.out (Nat.le_refl _) 0 0 0 (.slice none 0 0))
      obtain ⟨⟨z0, z1, z2, z3⟩, f0, f1, f2, f3⟩ := gcs_four KW.out
      go_wp2_with fail
      change bodyPost _ _ _ _ _ (setG w3 w.heap.size 0 0 0 (.slice none 0 0))
      generalize setG w3 w.heap.size 0 0 0 (.slice none 0 0) = WZ at *
      obtain ⟨⟨d0, d1, d2, d3⟩, -⟩ := gcs_four RW.out
      exact bodyPost_ret (v := .tuple #[.agg #[.int .i64 0, .int .i64 0, .int .i64 0, .slice none 0 0], .bool false]) (by simp [results, Tryd.results17, go_sem, d0, d1, d2, d3]) rfl (RG.no hr.out RB.out)
    | some ns =>
      cases oh with
      | none =>
        have hr : Hid ((some ns).bind (Gw.g3 ((none : Option (List Int)).getD [])) = none) := Lib.hid (Gw.bind_nil _)
        go_enter Tryd.func17, Tryd.ntmps17
        go_wp2_with fail
        refine C.out.mono ?_
        rintro e w1 ⟨v0, rfl, hst, b1⟩
        obtain ⟨gw, cap, rfl, hgw, hcw⟩ := strs_form hst hpos
        have k0 : w1.cell? ⟨gw, 0, none⟩ = some (.string ⟨p.toArray⟩) := hcw 0 _ rfl
        have k1 : w1.cell? ⟨gw, 1, none⟩ = some (.string ⟨r.toArray⟩) := hcw 1 _ rfl
        have B1 := Lib.hid (bt HB.out b1)
        have K1 := Lib.hid (HK.out w1 b1)
        clear b1 hst hcw
        go_wp2_with fail
        refine (CP.out _).mono ?_
        rintro e w2 ⟨u, rfl, ho, b2⟩
        have K2 := Lib.hid (K1.out.all b2)
        have B2 := Lib.hid (bt B1.out b2)
        have hlt2 := Lib.hid K2.out.lt
        have k2 : w2.cell? ⟨gw, 1, none⟩ = some (.string ⟨r.toArray⟩) := (b2.cell (p := ⟨gw, 1, none⟩) hgw).trans k1
        obtain ⟨ua, ucap, rfl⟩ := (Own.sl ho).form
        clear b2 k0 k1
        go_wp2_with fail
        refine (CR.out _).mono ?_
        rintro e w3 ⟨v, rfl, ov, b3⟩
        have K3 := Lib.hid (K2.out.all b3)
        have B3 := Lib.hid (bt B2.out b3)
        have KW := K3
        obtain ⟨va, vcap, rfl⟩ := (Own.sl ov).form
        clear b3 ov ho k2 K3
        have RW := Lib.hid (setG_whole KW.out 0 0 0 (.slice none 0 0))
        have RB := Lib.hid (setG_below B3.out (Nat.le_refl _) 0 0 0 (.slice none 0 0))
        obtain ⟨⟨z0, z1, z2, z3⟩, f0, f1, f2, f3⟩ := gcs_four KW.out
        go_wp2_with fail
        change bodyPost _ _ _ _ _ (setG w3 w.heap.size 0 0 0 (.slice none 0 0))
        generalize setG w3 w.heap.size 0 0 0 (.slice none 0 0) = WZ at *
        obtain ⟨⟨d0, d1, d2, d3⟩, -⟩ := gcs_four RW.out
        exact bodyPost_ret (v := .tuple #[.agg #[.int .i64 0, .int .i64 0, .int .i64 0, .slice none 0 0], .bool false]) (by simp [results, Tryd.results17, go_sem, d0, d1, d2, d3]) rfl (RG.no hr.out RB.out)
      | some hs =>
        have hln3 : ((some hs).getD []).length = hs.length := rfl
        rw [hln3] at hln2
        by_cases hz : ns.length = 3
        · obtain ⟨a, b, c, rfl⟩ := Gw.three hz
          have hb0 : (some [a, b, c]).bind (Gw.g3 ((some hs).getD [])) = Gw.g3 hs [a, b, c] := rfl
          rw [hb0]
          clear hz hb0 hln3
          go_enter Tryd.func17, Tryd.ntmps17
          go_wp2_with fail
          refine C.out.mono ?_
          rintro e w1 ⟨v0, rfl, hst, b1⟩
          obtain ⟨gw, cap, rfl, hgw, hcw⟩ := strs_form hst hpos
          have k0 : w1.cell? ⟨gw, 0, none⟩ = some (.string ⟨p.toArray⟩) := hcw 0 _ rfl
          have k1 : w1.cell? ⟨gw, 1, none⟩ = some (.string ⟨r.toArray⟩) := hcw 1 _ rfl
          have B1 := Lib.hid (bt HB.out b1)
          have K1 := Lib.hid (HK.out w1 b1)
          clear b1 hst hcw
          go_wp2_with fail
          refine (CP.out _).mono ?_
          rintro e w2 ⟨u, rfl, ho, b2⟩
          have K2 := Lib.hid (K1.out.all b2)
          have B2 := Lib.hid (bt B1.out b2)
          have hlt2 := Lib.hid K2.out.lt
          have k2 : w2.cell? ⟨gw, 1, none⟩ = some (.string ⟨r.toArray⟩) := (b2.cell (p := ⟨gw, 1, none⟩) hgw).trans k1
          obtain ⟨g, cap2, rfl, hc⟩ := own_rowG ho (by simp)
          have hg0 := World.block_lt_of_cell? w2 _ (hc 0 _ rfl)
          clear b2 k0 k1
          go_wp2_with fail
          refine (CR.out _).mono ?_
          rintro e w3 ⟨v, rfl, ov, b3⟩
          have K3 := Lib.hid (K2.out.all b3)
          have B3 := Lib.hid (bt B2.out b3)
          have e0 : w3.cell? ⟨g, 0, none⟩ = some (.int .i64 a) := (b3.cell (p := ⟨g, 0, none⟩) hg0).trans (hc 0 _ rfl)
          have e1 : w3.cell? ⟨g, 1, none⟩ = some (.int .i64 b) := (b3.cell (p := ⟨g, 1, none⟩) hg0).trans (hc 1 _ rfl)
          have e2 : w3.cell? ⟨g, 2, none⟩ = some (.int .i64 c) := (b3.cell (p := ⟨g, 2, none⟩) hg0).trans (hc 2 _ rfl)
          have hg : g < w3.heap.size := World.block_lt_of_cell? w3 _ e0
          have hne : w3.heap.size ≠ g := Nat.ne_of_gt hg
          have OV : Hid (Own w2.heap.size w3 v hs) := Lib.hid ov
          obtain ⟨va, vcap, rfl⟩ := (Own.sl OV.out).form
          clear b3 ho hc ov hg0 k2
          go_wp2_with fail
          refine wp_region_held_drew (S := (fun w' => w'.cell? ⟨g, 0, none⟩ = some (.int .i64 a) ∧ w'.cell? ⟨g, 1, none⟩ = some (.int .i64 b) ∧ w'.cell? ⟨g, 2, none⟩ = some (.int .i64 c))) (by kernel_rfl) ?_ (fun hHeld => ?_)
          · (try dsimp only)
            first | done | go_keep
          refine wpAnyH_take (i := 0) (oi := ({ dst := some 42, op := Op.move (Operand.tmp 5), type := 24, pos := "l09_terrain.go:250", after := #[], guard := none } : Oper)) (v := ?_) rfl (by kernel_rfl) (by kernel_rfl) (by kernel_rfl) (fun _ _ _ h => h) (Or.inl ⟨by kernel_rfl, ?_⟩) (by assumption) ?_
          rotate_left
          · (intro w hSw; (try dsimp only at hSw); go_simp <;> with_reducible rfl)
          try simp only [Act.put, List.setIfInBounds_toArray, List.set_cons_zero, List.set_cons_succ]
          refine wpAnyH_take (i := 1) (oi := ({ dst := some 43, op := Op.indexAddr 24 (Operand.tmp 42) (Operand.const (Value.int IntKind.i64 0)), type := 0, pos := "l09_terrain.go:250", after := #[{ on := 0, ground := Ground.data }], guard := none } : Oper)) (v := ?_) rfl (by kernel_rfl) (by kernel_rfl) (by kernel_rfl) (fun _ _ _ h => h) (Or.inl ⟨by kernel_rfl, ?_⟩) (by assumption) ?_
          rotate_left
          · (intro w hSw; (try dsimp only at hSw); go_simp <;> with_reducible rfl)
          try simp only [Act.put, List.setIfInBounds_toArray, List.set_cons_zero, List.set_cons_succ]
          refine wpAnyH_take (i := 2) (oi := ({ dst := some 44, op := Op.load 2 (Operand.tmp 43), type := 2, pos := "l09_terrain.go:250", after := #[{ on := 1, ground := Ground.data }], guard := none } : Oper)) (v := ?_) rfl (by kernel_rfl) (by kernel_rfl) (by kernel_rfl) (fun _ _ _ h => h) (Or.inl ⟨by kernel_rfl, ?_⟩) (by assumption) ?_
          rotate_left
          · (intro w hSw; (try dsimp only at hSw); go_simp <;> with_reducible rfl)
          try simp only [Act.put, List.setIfInBounds_toArray, List.set_cons_zero, List.set_cons_succ]
          refine wpAnyH_take (i := 3) (oi := ({ dst := some 45, op := Op.move (Operand.tmp 5), type := 24, pos := "l09_terrain.go:250", after := #[], guard := none } : Oper)) (v := ?_) rfl (by kernel_rfl) (by kernel_rfl) (by kernel_rfl) (fun _ _ _ h => h) (Or.inl ⟨by kernel_rfl, ?_⟩) (by assumption) ?_
          rotate_left
          · (intro w hSw; (try dsimp only at hSw); go_simp <;> with_reducible rfl)
          try simp only [Act.put, List.setIfInBounds_toArray, List.set_cons_zero, List.set_cons_succ]
          refine wpAnyH_take (i := 4) (oi := ({ dst := some 46, op := Op.indexAddr 24 (Operand.tmp 45) (Operand.const (Value.int IntKind.i64 1)), type := 0, pos := "l09_terrain.go:250", after := #[{ on := 3, ground := Ground.data }], guard := none } : Oper)) (v := ?_) rfl (by kernel_rfl) (by kernel_rfl) (by kernel_rfl) (fun _ _ _ h => h) (Or.inl ⟨by kernel_rfl, ?_⟩) (by assumption) ?_
          rotate_left
          · (intro w hSw; (try dsimp only at hSw); go_simp <;> with_reducible rfl)
          try simp only [Act.put, List.setIfInBounds_toArray, List.set_cons_zero, List.set_cons_succ]
          refine wpAnyH_take (i := 5) (oi := ({ dst := some 47, op := Op.load 2 (Operand.tmp 46), type := 2, pos := "l09_terrain.go:250", after := #[{ on := 4, ground := Ground.data }], guard := none } : Oper)) (v := ?_) rfl (by kernel_rfl) (by kernel_rfl) (by kernel_rfl) (fun _ _ _ h => h) (Or.inl ⟨by kernel_rfl, ?_⟩) (by assumption) ?_
          rotate_left
          · (intro w hSw; (try dsimp only at hSw); go_simp <;> with_reducible rfl)
          try simp only [Act.put, List.setIfInBounds_toArray, List.set_cons_zero, List.set_cons_succ]
          refine wpAnyH_take (i := 6) (oi := ({ dst := some 48, op := Op.move (Operand.tmp 5), type := 24, pos := "l09_terrain.go:250", after := #[], guard := none } : Oper)) (v := ?_) rfl (by kernel_rfl) (by kernel_rfl) (by kernel_rfl) (fun _ _ _ h => h) (Or.inl ⟨by kernel_rfl, ?_⟩) (by assumption) ?_
          rotate_left
          · (intro w hSw; (try dsimp only at hSw); go_simp <;> with_reducible rfl)
          try simp only [Act.put, List.setIfInBounds_toArray, List.set_cons_zero, List.set_cons_succ]
          refine wpAnyH_take (i := 7) (oi := ({ dst := some 49, op := Op.indexAddr 24 (Operand.tmp 48) (Operand.const (Value.int IntKind.i64 2)), type := 0, pos := "l09_terrain.go:250", after := #[{ on := 6, ground := Ground.data }], guard := none } : Oper)) (v := ?_) rfl (by kernel_rfl) (by kernel_rfl) (by kernel_rfl) (fun _ _ _ h => h) (Or.inl ⟨by kernel_rfl, ?_⟩) (by assumption) ?_
          rotate_left
          · (intro w hSw; (try dsimp only at hSw); go_simp <;> with_reducible rfl)
          try simp only [Act.put, List.setIfInBounds_toArray, List.set_cons_zero, List.set_cons_succ]
          refine wpAnyH_take (i := 8) (oi := ({ dst := some 50, op := Op.load 2 (Operand.tmp 49), type := 2, pos := "l09_terrain.go:250", after := #[{ on := 7, ground := Ground.data }], guard := none } : Oper)) (v := ?_) rfl (by kernel_rfl) (by kernel_rfl) (by kernel_rfl) (fun _ _ _ h => h) (Or.inl ⟨by kernel_rfl, ?_⟩) (by assumption) ?_
          rotate_left
          · (intro w hSw; (try dsimp only at hSw); go_simp <;> with_reducible rfl)
          try simp only [Act.put, List.setIfInBounds_toArray, List.set_cons_zero, List.set_cons_succ]
          refine wpAnyH_take (i := 9) (oi := ({ dst := some 51, op := Op.move (Operand.tmp 7), type := 24, pos := "l09_terrain.go:250", after := #[], guard := none } : Oper)) (v := ?_) rfl (by kernel_rfl) (by kernel_rfl) (by kernel_rfl) (fun _ _ _ h => h) (Or.inl ⟨by kernel_rfl, ?_⟩) (by assumption) ?_
          rotate_left
          · (intro w hSw; (try dsimp only at hSw); go_simp <;> with_reducible rfl)
          try simp only [Act.put, List.setIfInBounds_toArray, List.set_cons_zero, List.set_cons_succ]
          refine wpAnyH_take (i := 10) (oi := ({ dst := some 52, op := Op.build 29 #[(0, Operand.tmp 44), (1, Operand.tmp 47), (2, Operand.tmp 50), (3, Operand.tmp 51)], type := 29, pos := "l09_terrain.go:250", after := #[{ on := 2, ground := Ground.data }, { on := 5, ground := Ground.data }, { on := 8, ground := Ground.data }, { on := 9, ground := Ground.data }], guard := none } : Oper)) (v := ?_) rfl (by kernel_rfl) (by kernel_rfl) (by kernel_rfl) (fun _ _ _ h => h) (Or.inl ⟨by kernel_rfl, ?_⟩) (by assumption) ?_
          rotate_left
          · (intro w hSw; (try dsimp only at hSw); go_simp <;> with_reducible rfl)
          try simp only [Act.put, List.setIfInBounds_toArray, List.set_cons_zero, List.set_cons_succ]
          refine wpAnyH_ready (rs := [11]) (by kernel_rfl) (by simp) ?_
          refine AllReadyH.cons (o := ({ dst := some 9, op := Op.alloc 29, type := 0, pos := "l09_terrain.go:250", after := #[], guard := none } : Oper)) rfl (fun K hK => ?_) ?_
          · go_simp
            refine hK.out _ _ ?_ (fun hHeld => ?_)
            · (try dsimp only)
              first | done | go_keep
            clear hK K
            try simp only [Act.put, List.setIfInBounds_toArray, List.set_cons_zero, List.set_cons_succ]
            refine wpAnyH_ready (rs := [12]) (by kernel_rfl) (by simp) ?_
            refine AllReadyH.cons (o := ({ dst := none, op := Op.store 29 (Operand.tmp 9) (Operand.tmp 52), type := 0, pos := "l09_terrain.go:250", after := #[{ on := 11, ground := Ground.data }, { on := 10, ground := Ground.data }, { on := 0, ground := Ground.phase }, { on := 1, ground := Ground.phase }, { on := 2, ground := Ground.phase }, { on := 3, ground := Ground.phase }, { on := 4, ground := Ground.phase }, { on := 5, ground := Ground.phase }, { on := 6, ground := Ground.phase }, { on := 7, ground := Ground.phase }, { on := 8, ground := Ground.phase }, { on := 9, ground := Ground.phase }, { on := 10, ground := Ground.phase }, { on := 11, ground := Ground.phase }], guard := none } : Oper)) rfl (fun K hK => ?_) ?_
            · go_simp
              refine hK.out _ _ ?_ (fun hHeld => ?_)
              · (try dsimp only)
                first | done | go_keep
              clear hK K
              try simp only [Act.put, List.setIfInBounds_toArray, List.set_cons_zero, List.set_cons_succ]
              refine wpAnyH_done (by kernel_rfl) ?_ _
              have X0 := Lib.hid (Whole.new w3.drew 29 (gcs a b c (.slice va hs.length vcap)))
              have BX := Lib.hid ((show Below w3.heap.size w3 w3.drew from below_drewW _ 1).alloc (Nat.le_refl _) (.cells (gcs a b c (.slice va hs.length vcap)) 29))
              change Exit.then _ _ _ _ ((w3.drew).alloc (.cells (gcs a b c (.slice va hs.length vcap)) 29))
              have hX : Hid (Whole ((w3.drew).alloc (.cells (gcs a b c (.slice va hs.length vcap)) 29)) w3.heap.size 29 (gcs a b c (.slice va hs.length vcap))) := Lib.hid X0.out
              generalize (w3.drew).alloc (.cells (gcs a b c (.slice va hs.length vcap)) 29) = W4 at *
              clear X0 e0 e1 e2 hne hg
              have K4 := Lib.hid (K3.out.below BX.out K3.out.lt)
              have B4 := Lib.hid (bt B3.out BX.out)
              have O4 := Lib.hid (own_belowAll OV.out BX.out)
              have CV := Lib.hid (l09Ok_any W4 w3.heap.size a b c _ hs (gcs_gc hX.out) (Own.sl O4.out) hln2)
              have hgb := Lib.hid (fun h => Gw.g3_bad (hs := hs) (a := a) (b := b) (c := c) h)
              have hgo := Lib.hid (fun h => Gw.g3_ok (hs := hs) (a := a) (b := b) (c := c) h)
              generalize w3.heap.size = gX at *
              cases hx : Gw.ok a b c hs with
              | false =>
                have hr := Lib.hid (hgb.out hx)
                rw [hx] at CV
                clear hx hgb hgo
                go_wp2_with fail
                refine CV.out.mono ?_
                rintro e w7 ⟨rfl, b7⟩
                have KW := Lib.hid (K4.out.all b7)
                have B7 := Lib.hid (bt B4.out b7)
                clear b7
                have RW := Lib.hid (setG_whole KW.out 0 0 0 (.slice none 0 0))
                have RB := Lib.hid (setG_below B7.out (Nat.le_refl _) 0 0 0 (.slice none 0 0))
                obtain ⟨⟨z0, z1, z2, z3⟩, f0, f1, f2, f3⟩ := gcs_four KW.out
                go_wp2_with fail
                change bodyPost _ _ _ _ _ (setG w7 w.heap.size 0 0 0 (.slice none 0 0))
                generalize setG w7 w.heap.size 0 0 0 (.slice none 0 0) = WZ at *
                obtain ⟨⟨d0, d1, d2, d3⟩, -⟩ := gcs_four RW.out
                exact bodyPost_ret (v := .tuple #[.agg #[.int .i64 0, .int .i64 0, .int .i64 0, .slice none 0 0], .bool false]) (by simp [results, Tryd.results17, go_sem, d0, d1, d2, d3]) rfl (RG.no hr.out RB.out)
              | true =>
                have hr := Lib.hid (hgo.out hx)
                rw [hx] at CV
                clear hx hgb hgo
                go_wp2_with fail
                refine CV.out.mono ?_
                rintro e w7 ⟨rfl, b7⟩
                have KW := Lib.hid (K4.out.all b7)
                have X7 := Lib.hid (hX.out.all b7)
                have B7 := Lib.hid (bt B4.out b7)
                have O7 := Lib.hid (own_belowAll O4.out b7)
                clear b7
                obtain ⟨⟨x0, x1, x2, x3⟩, -⟩ := gcs_four X7.out
                obtain ⟨⟨z0, z1, z2, z3⟩, f0, f1, f2, f3⟩ := gcs_four KW.out
                have RW := Lib.hid (setG_whole KW.out a b c (.slice va hs.length vcap))
                have RB := Lib.hid (setG_below B7.out (Nat.le_refl _) a b c (.slice va hs.length vcap))
                have O8 := Lib.hid (own_far O7.out (setG_only w7 w.heap.size a b c (.slice va hs.length vcap)) hlt2.out)
                have hle8 := Lib.hid (Nat.le_of_lt hlt2.out)
                go_wp2_with fail
                change bodyPost _ _ _ _ _ (setG w7 w.heap.size a b c (.slice va hs.length vcap))
                generalize setG w7 w.heap.size a b c (.slice va hs.length vcap) = WZ at *
                obtain ⟨⟨d0, d1, d2, d3⟩, -⟩ := gcs_four RW.out
                exact bodyPost_ret (v := .tuple #[.agg #[.int .i64 a, .int .i64 b, .int .i64 c, (.slice va hs.length vcap)], .bool true]) (by simp [results, Tryd.results17, go_sem, d0, d1, d2, d3]) rfl (RG.yes hr.out (Go.Joins.ownsRow_le O8.out hle8.out) RB.out)
            exact AllReadyH.nil
          exact AllReadyH.nil
        · have hr : Hid ((some ns).bind (Gw.g3 ((some hs).getD [])) = none) := Lib.hid (Gw.g3_len hz)
          have hz2 : ((ns.length : Int) != 3) = true := by rw [bne_iff_ne]; omega
          clear hz
          go_enter Tryd.func17, Tryd.ntmps17
          go_wp2_with fail
          refine C.out.mono ?_
          rintro e w1 ⟨v0, rfl, hst, b1⟩
          obtain ⟨gw, cap, rfl, hgw, hcw⟩ := strs_form hst hpos
          have k0 : w1.cell? ⟨gw, 0, none⟩ = some (.string ⟨p.toArray⟩) := hcw 0 _ rfl
          have k1 : w1.cell? ⟨gw, 1, none⟩ = some (.string ⟨r.toArray⟩) := hcw 1 _ rfl
          have B1 := Lib.hid (bt HB.out b1)
          have K1 := Lib.hid (HK.out w1 b1)
          clear b1 hst hcw
          go_wp2_with fail
          refine (CP.out _).mono ?_
          rintro e w2 ⟨u, rfl, ho, b2⟩
          have K2 := Lib.hid (K1.out.all b2)
          have B2 := Lib.hid (bt B1.out b2)
          have hlt2 := Lib.hid K2.out.lt
          have k2 : w2.cell? ⟨gw, 1, none⟩ = some (.string ⟨r.toArray⟩) := (b2.cell (p := ⟨gw, 1, none⟩) hgw).trans k1
          obtain ⟨ua, ucap, rfl⟩ := (Own.sl ho).form
          have hln : ((some ns).getD []).length = ns.length := rfl
          rw [hln]
          clear b2 k0 k1
          go_wp2_with fail
          refine (CR.out _).mono ?_
          rintro e w3 ⟨v, rfl, ov, b3⟩
          have K3 := Lib.hid (K2.out.all b3)
          have B3 := Lib.hid (bt B2.out b3)
          have KW := K3
          obtain ⟨va, vcap, rfl⟩ := (Own.sl ov).form
          clear b3 ov ho k2 K3
          have RW := Lib.hid (setG_whole KW.out 0 0 0 (.slice none 0 0))
          have RB := Lib.hid (setG_below B3.out (Nat.le_refl _) 0 0 0 (.slice none 0 0))
          obtain ⟨⟨z0, z1, z2, z3⟩, f0, f1, f2, f3⟩ := gcs_four KW.out
          go_wp2_with fail
          change bodyPost _ _ _ _ _ (setG w3 w.heap.size 0 0 0 (.slice none 0 0))
          generalize setG w3 w.heap.size 0 0 0 (.slice none 0 0) = WZ at *
          obtain ⟨⟨d0, d1, d2, d3⟩, -⟩ := gcs_four RW.out
          exact bodyPost_ret (v := .tuple #[.agg #[.int .i64 0, .int .i64 0, .int .i64 0, .slice none 0 0], .bool false]) (by simp [results, Tryd.results17, go_sem, d0, d1, d2, d3]) rfl (RG.no hr.out RB.out)
end Go.Proofs.YteileaeeiejonacDoor

/-
  The cells around a cell to which steps of a kind lead, as a word (chapter 11). The conditions: a good grid; the table of ways as it is laid. (Written by wip/gen/genrll.py.)
-/
import Derived.Test.YthcmpalbhaefbaaDoorRnd
import Derived.Shelf.AbstractIn
import Derived.Test.YthcmpalbhaefbaaDoorRlC
import Derived.Test.YthcmpalbhaefbaaDoorRlH
import Derived.Test.YthcmpalbhaefbaaDoorRlK
import Derived.Test.YthcmpalbhaefbaaDoorPtM
namespace Go.Proofs.YthcmpalbhaefbaaDoor
open Go.RowKit Go.Shelf Go.Deep
set_option linter.unusedVariables false
set_option maxRecDepth 100000
attribute [local go_sem] Oper.semAt_some
namespace Gw
/-- the cells to which steps of a kind lead -/
def arL (r c k : Int) (p : Nat → Bool) (l : List Nat) : List Int := (l.filter p).map (goC r c k)
theorem arL_yes {r c k : Int} {p : Nat → Bool} {l : List Nat} {a : Nat} (h : p a = true) : Rl.sN (arL r c k p (l ++ [a])) = Rl.sN (arL r c k p l) ||| 2 ^ (goC r c k a).toNat := by
  unfold arL
  rw [List.filter_append, List.map_append, List.filter_cons_of_pos h, List.filter_nil, List.map_cons, List.map_nil, Rl.sN_snoc]
theorem arL_no {r c k : Int} {p : Nat → Bool} {l : List Nat} {a : Nat} (h : p a = false) : arL r c k p (l ++ [a]) = arL r c k p l := by
  unfold arL
  rw [List.filter_append, List.filter_cons_of_neg (by rw [h]; decide), List.filter_nil, List.append_nil]
theorem arL_lt {r c : Int} {n : Nat} (h1 : 1 ≤ c) (hn : (n : Int) = r * c) (h64 : n ≤ 64) {k : Int} {p : Nat → Bool} {l : List Nat} (hl : ∀ a ∈ l, goB r c k a = true) : Rl.sN (arL r c k p l) < 2 ^ 64 :=
  Rl.sN_lt (fun x hx => by
    unfold arL at hx
    obtain ⟨a, ha, rfl⟩ := List.mem_map.1 hx
    have := goC_lt (hl a (List.mem_filter.1 ha).1) h1 hn
    omega)
end Gw
set_option maxHeartbeats 16000000 in
theorem around_in (n : Nat) (hn : 8 ≤ n) (w : World) (R C k hb L cap g cap' S : Nat) (s : Int) (zs : List Int) (G : Gw.Good R C s zs) (hk : k < zs.length) (hr : RowsAt w g hb 0 C R)
    (hs : ∀ j x, zs[j]? = some x → w.cell? ⟨hb, 0 + j, none⟩ = some (.int .i64 x)) (hb1 : hb < w.heap.size) (hA : AspAt w) 
    (h : Nat) (lb : Array Value) (p : Nat → Bool) (eg : ∀ args w, (callFunc h args).run Tryd.prog w = .ok (.enter h args) w)
    (hc : ∀ a, a < 8 → Gw.goB R C k a = true → ∀ W, Below w.heap.size w W → Calls Tryd.prog h (#[stepV R C s zs k a] ++ lb) W fun e w' => e = .returned (.bool (p a)) ∧ Below W.heap.size W w') :
    CallsIn Fence.wide n Tryd.prog 71 #[.agg #[.int .i64 R, .int .i64 C, .int .i64 s, .slice (some ⟨hb, 0, none⟩) L cap, .slice (some ⟨g, 0, none⟩) R cap', .int .u64 (S : Int)], .int .i64 (k : Int), .func (.func h) #[] lb] w fun e w' =>
      e = .returned (.int .u64 (Rl.sN (Gw.arL R C k p (Gw.dirs R C k)) : Int)) ∧ Below w.heap.size w w' := by
  have hro : Fence.wide.round = none := rfl
  have r1 := G.r1; have r2 := G.r2; have c1 := G.c1; have c2 := G.c2
  have hlen := G.len
  have CF := Lib.hid (fun W v u => stepsFrom_any W (R : Int) C s v u (k : Int) (by omega) (by omega) c1 c2)
  have B3 : Hid (Below w.heap.size w (((w.alloc (.cells #[.int .i64 R, .int .i64 C, .int .i64 s, .slice (some ⟨hb, 0, none⟩) L cap, .slice (some ⟨g, 0, none⟩) R cap', .int .u64 (S : Int)] 90)).alloc (.cells #[.func (.func h) #[] lb] 81)).alloc (.cells #[.int .u64 0] 88))) := Lib.hid ((((Below.refl _ w).alloc (Nat.le_refl _) _).alloc (by simp) _).alloc (by simp; omega) _)
  have RB := Lib.hid (((Whole.new w 90 #[.int .i64 R, .int .i64 C, .int .i64 s, .slice (some ⟨hb, 0, none⟩) L cap, .slice (some ⟨g, 0, none⟩) R cap', .int .u64 (S : Int)]).alloc (.cells #[.func (.func h) #[] lb] 81)).alloc (.cells #[.int .u64 0] 88))
  have FB : Hid (Whole (((w.alloc (.cells #[.int .i64 R, .int .i64 C, .int .i64 s, .slice (some ⟨hb, 0, none⟩) L cap, .slice (some ⟨g, 0, none⟩) R cap', .int .u64 (S : Int)] 90)).alloc (.cells #[.func (.func h) #[] lb] 81)).alloc (.cells #[.int .u64 0] 88)) (w.heap.size + 1) 81 #[.func (.func h) #[] lb]) := Lib.hid (by
    have := (Whole.new (w.alloc (.cells #[.int .i64 R, .int .i64 C, .int .i64 s, .slice (some ⟨hb, 0, none⟩) L cap, .slice (some ⟨g, 0, none⟩) R cap', .int .u64 (S : Int)] 90)) 81 #[.func (.func h) #[] lb]).alloc (.cells #[.int .u64 0] 88)
    rwa [World.size_alloc] at this)
  have SB := Lib.hid (whole2 w (.cells #[.int .i64 R, .int .i64 C, .int .i64 s, .slice (some ⟨hb, 0, none⟩) L cap, .slice (some ⟨g, 0, none⟩) R cap', .int .u64 (S : Int)] 90) (.cells #[.func (.func h) #[] lb] 81) 88 #[.int .u64 0])
  have hz3 : Hid ((((w.alloc (.cells #[.int .i64 R, .int .i64 C, .int .i64 s, .slice (some ⟨hb, 0, none⟩) L cap, .slice (some ⟨g, 0, none⟩) R cap', .int .u64 (S : Int)] 90)).alloc (.cells #[.func (.func h) #[] lb] 81)).alloc (.cells #[.int .u64 0] 88)).heap.size = w.heap.size + 3) := Lib.hid (by simp)
  refine callsIn_of_wp_marks Tryd.func71 rfl trivial ?_ hro
  simp only [Tryd.ntmps71, List.size_toArray, List.length_cons, List.length_nil, Nat.reduceAdd, Nat.reduceSub, Array.replicate_succ, Array.replicate_zero, List.push_toArray, List.append_toArray, List.nil_append, List.cons_append]
  gi_wp2_with fail
  refine ⟨trivial, fun _ => by omega, (callsIn_wide.2 (CF.out _ _ _)).mono ?_⟩
  rintro e W0 ⟨q, rfl, te, fr, hq, b0⟩
  rw [hz3.out] at te hq
  have B0 := Lib.hid (bt B3.out b0)
  have RS := Lib.hid (RB.out.all b0)
  have FS := Lib.hid (FB.out.all b0)
  have SS := Lib.hid (SB.out.all b0)
  have hsz : w.heap.size + 4 ≤ W0.heap.size := by have := b0.size; rw [hz3.out] at this; have := te.lt; omega
  clear b0 CF RB FB SB B3
  rw [hz3.out]
  clear hz3
  have hA0 := hA.below B0.out
  have hgl := hr.1
  have SK0 : SK W0.heap.size W0 R C k hb 0 L cap g cap' q (w.heap.size + 3) s zs := ⟨te, fr, hr.below B0.out hgl, fun j x hx => (B0.out.cell (p := ⟨hb, 0 + j, none⟩) hb1).trans (hs j x hx), by omega, by omega, fr.lt, te.lt⟩
  have h1 : 1 ≤ n := by omega
  have GG := Lib.hid G
  have HC := Lib.hid hc
  clear te fr hr hs hA G hc r1 r2 c1 c2
  gi_wp2_with fail
  refine wpIn_rangeFunc_ownH hro h1 (gf := 96) (lb := #[.pointer (some ⟨q, 0, none⟩), .pointer (some ⟨w.heap.size + 3, 0, none⟩)]) rfl trivial (enters_of Tryd.func96 (by kernel_rfl) rfl)
    (stepsx_stops (w.heap.size + 1 + 1) (n - 1) (by omega) W0.heap.size R C k hb 0 L cap g cap' q (w.heap.size + 3) s zs GG.out hk ⟨by omega, by omega, by omega, by omega⟩ W0 SK0 hA0 (Nat.le_refl _)) BX.trans (fun W l o o' hl h e1 e2 => BX.of (belowK_b (w := W0) (Nat.le_refl _) W l o o' hl h e1 e2)) (Below.refl _ _) (fun _ => rfl)
    (fun pre W => Whole W (w.heap.size + 1 + 1) 88 #[.int .u64 (Rl.sN (Gw.arL R C k p (pre.map (fun x => x.1))) : Int)] ∧ BX W0.heap.size (w.heap.size + 1 + 1) W0 W)
    (fun _ _ _ => False)
    (OwnFrom.and (Own.from (whole_own _ _ (fun pre : List (Gw.Dir R C k) => #[.int .u64 (Rl.sN (Gw.arL R C k p (pre.map (fun x => x.1))) : Int)])) _) (ownFrom_bx (Nat.le_refl _) (Nat.le_refl _)))
    (fun _ _ _ _ _ hs _ _ => hs)
    ⟨SS.out, BX.refl _ _ _⟩
    (fun x a' W => ∃ Bx, w.heap.size + 3 < Bx ∧ Whole W Bx 74 (stC R C s zs k (some x.1)) ∧ a' = { tmps := #[Value.agg #[.int .i64 R, .int .i64 C, .int .i64 s, .slice (some ⟨hb, 0, none⟩) L cap, .slice (some ⟨g, 0, none⟩) R cap', .int .u64 (S : Int)], Value.int IntKind.i64 ↑k, .func (.func h) #[] lb, Value.pointer (some { block := w.heap.size, off := 0 }), undef, Value.pointer (some { block := w.heap.size + 1, off := 0 }), Value.int IntKind.u64 0, Value.pointer (some { block := w.heap.size + 1 + 1, off := 0 }), Value.pointer (some ⟨Bx, 0, none⟩), Value.pointer (some { block := w.heap.size, off := 0 }), Value.agg #[.int .i64 R, .int .i64 C, .int .i64 s, .slice (some ⟨hb, 0, none⟩) L cap, .slice (some ⟨g, 0, none⟩) R cap'], Value.int IntKind.i64 ↑k, Value.func (Fn.func 96) #[] #[Value.pointer (some { block := q, off := 0 }), Value.pointer (some { block := w.heap.size + 3, off := 0 })], stepV R C s zs k x.1, undef, undef, undef, undef, undef, undef, undef, undef, undef, undef, undef, undef, undef], defers := [] })
    (fun x a' _ X Y row hs hg hr => by obtain ⟨Bx, h1, h2, h3⟩ := hs; exact ⟨Bx, h1, whole_own Bx _ (fun (_ : Unit) => stC R C s zs k (some x.1)) () X Y row h2 hg (fun r e => (hr r e).2), h3⟩)
    ?assign ?body ?done ?stop
  case assign =>
    rintro l pre x W K ⟨bS1, hB1⟩ hK
    have hst : stepV R C s zs k x.1 = .agg (stC R C s zs k (some x.1)) := rfl
    obtain ⟨d0, p0, q0, hc⟩ := stC_five R C s zs k (some x.1)
    rw [hst] at hK ⊢
    rw [hc] at hK ⊢
    have hW := hB1.size
    generalize dnO R C zs k (some x.1) = d1 at *
    generalize Gw.slO R C s zs k (some x.1) = d2 at *
    clear hst hc
    gi_wp2_with fail
    exact hK _ _ ((KeepsOthers.alloc _ _).from _) (BX.of ((Below.refl _ W).alloc hW _)) ⟨bS1.alloc _, hB1.trans (BX.of ((Below.refl _ W).alloc hW _))⟩ ⟨W.heap.size, by omega, Whole.new W _ _, rfl⟩
  case body =>
    rintro l pre x a' W hl _ ⟨bS1, hB1⟩ ⟨Bx, hBx, bX, rfl⟩ hlt
    have hst : stepV R C s zs k x.1 = .agg #[.int .i64 (x.1 : Int), .int .i64 (Gw.rwA C k x.1), .int .i64 (Gw.clA C k x.1), .int .i64 (Gw.drp zs k (Gw.goC R C k x.1).toNat), .int .i64 (Gw.fall s zs k (Gw.goC R C k x.1).toNat x.1)] := rfl
    have hsc : stC R C s zs k (some x.1) = #[.int .i64 (x.1 : Int), .int .i64 (Gw.rwA C k x.1), .int .i64 (Gw.clA C k x.1), .int .i64 (Gw.drp zs k (Gw.goC R C k x.1).toNat), .int .i64 (Gw.fall s zs k (Gw.goC R C k x.1).toNat x.1)] := rfl
    obtain ⟨eg1, hw1, hw2⟩ := Gw.goC_wrap GG.out x.2.2
    obtain ⟨z0, zl⟩ := Gw.goC_lt x.2.2 GG.out.c1 GG.out.n
    have hzn : Gw.rwA C k x.1 * C + Gw.clA C k x.1 = ((Gw.goC R C k x.1).toNat : Int) := by rw [← eg1]; exact (Int.toNat_of_nonneg z0).symm
    have CP := Lib.hid (fun W => placeCell_any (Gw.rwA C k x.1) (Gw.clA C k x.1) C W hw1 hw2)
    rw [hzn] at CP
    have hpl : ∀ a ∈ pre.map (fun x => x.1), Gw.goB R C k a = true := fun a ha => by obtain ⟨y, -, rfl⟩ := List.mem_map.1 ha; exact y.2.2
    have hlt64 := Gw.arL_lt (p := p) GG.out.c1 GG.out.n hlen hpl
    have CW := Lib.hid (fun W => with_any (Rl.sN (Gw.arL R C k p (pre.map (fun x => x.1)))) (Gw.goC R C k x.1).toNat W hlt64 (by omega))
    have hmap : (pre ++ [x]).map (fun x => x.1) = pre.map (fun x => x.1) ++ [x.1] := by rw [List.map_append, List.map_cons, List.map_nil]
    have hY : Hid (p x.1 = true → Rl.sN (Gw.arL R C k p ((pre ++ [x]).map (fun x => x.1))) = Rl.sN (Gw.arL R C k p (pre.map (fun x => x.1))) ||| 2 ^ (Gw.goC R C k x.1).toNat) := Lib.hid (fun h => by rw [hmap]; exact Gw.arL_yes h)
    have hN : Hid (p x.1 = false → Gw.arL R C k p ((pre ++ [x]).map (fun x => x.1)) = Gw.arL R C k p (pre.map (fun x => x.1))) := Lib.hid (fun h => by rw [hmap]; exact Gw.arL_no h)
    have HCB := Lib.hid (fun W (hW : Below w.heap.size w W) => HC.out x.1 x.2.1 x.2.2 W hW)
    rw [hst] at HCB ⊢
    rw [hsc] at bX
    have BWW : Hid (Below w.heap.size w W) := Lib.hid (B0.out.trans (hB1.toBelow (by omega) (by omega)))
    have RSW := Lib.hid (hB1.whole RS.out (by omega) (by omega))
    have FSW := Lib.hid (hB1.whole FS.out (by omega) (by omega))
    have KX : Hid (∀ W', Below W.heap.size W W' → Whole W' (w.heap.size + 1 + 1) 88 #[.int .u64 (Rl.sN (Gw.arL R C k p (pre.map (fun x => x.1))) : Int)] ∧ Whole W' Bx 74 #[.int .i64 (x.1 : Int), .int .i64 (Gw.rwA C k x.1), .int .i64 (Gw.clA C k x.1), .int .i64 (Gw.drp zs k (Gw.goC R C k x.1).toNat), .int .i64 (Gw.fall s zs k (Gw.goC R C k x.1).toNat x.1)] ∧ Whole W' w.heap.size 90 #[.int .i64 R, .int .i64 C, .int .i64 s, .slice (some ⟨hb, 0, none⟩) L cap, .slice (some ⟨g, 0, none⟩) R cap', .int .u64 (S : Int)]) := Lib.hid (fun W' hb' => ⟨bS1.all hb', bX.all hb', RSW.out.all hb'⟩)
    clear hst hsc eg1 hw1 hw2 hzn hpl hlt64 hmap z0
    generalize Gw.arL R C k p (pre.map (fun x => x.1)) = ls at *
    generalize (Gw.goC R C k x.1).toNat = N at *
    generalize Gw.rwA C k x.1 = y1 at *
    generalize Gw.clA C k x.1 = y2 at *
    generalize Gw.drp zs k N = y3 at *
    generalize Gw.fall s zs k N x.1 = y4 at *
    obtain ⟨d, hd⟩ : ∃ d : Int, (x.1 : Int) = d := ⟨_, rfl⟩
    rw [hd] at HCB bX KX ⊢
    have f0 := FSW.out.at_ 0
    have x0 := bX.at_ 0; have x1 := bX.at_ 1; have x2 := bX.at_ 2; have x3 := bX.at_ 3; have x4 := bX.at_ 4
    cases hp : p x.1 with
    | false =>
      rw [hp] at HCB
      have E := Lib.hid (hN.out hp)
      clear hp hY hN hd
      gi_wp2_with fail
      refine ⟨trivial, fun _ => by omega, (CallsIn.inRound l (callsIn_wide.2 (HCB.out W BWW.out))).mono ?_⟩
      rintro e W1 ⟨rfl, b1⟩
      have BW1 := Lib.hid b1
      have KB := Lib.hid (KX.out W1 b1)
      clear b1
      gi_wp2_with fail
      exact ⟨keeps_below BW1.out, BX.of (BW1.out.mono hB1.size), by rw [E.out]; exact KB.out.1, hB1.trans (BX.of (BW1.out.mono hB1.size))⟩
    | true =>
      rw [hp] at HCB
      have E := Lib.hid (hY.out hp)
      clear hp hY hN hd
      gi_wp2_with fail
      refine ⟨trivial, fun _ => by omega, (CallsIn.inRound l (callsIn_wide.2 (HCB.out W BWW.out))).mono ?_⟩
      rintro e W1 ⟨rfl, b1⟩
      have BW1 := Lib.hid b1
      have BD : Hid (Below W.heap.size W W1.drew) := Lib.hid (bt b1 (below_drewW W1 1))
      clear b1 x0 x1 x2 x3 x4 f0
      have KK : Hid (∀ W', Below W.heap.size W W' → W'.cell? ⟨w.heap.size + 1 + 1, 0, none⟩ = some (.int .u64 (Rl.sN ls : Int)) ∧ W'.frozen? ⟨w.heap.size + 1 + 1, 0, none⟩ = false ∧ W'.cell? ⟨Bx, 1, none⟩ = some (.int .i64 y1) ∧ W'.cell? ⟨Bx, 2, none⟩ = some (.int .i64 y2) ∧ W'.cell? ⟨w.heap.size, 1, none⟩ = some (.int .i64 C)) := Lib.hid (fun W' hb' => ⟨(KX.out W' hb').1.at_ 0, (KX.out W' hb').1.free 0, (KX.out W' hb').2.1.at_ 1, (KX.out W' hb').2.1.at_ 2, (KX.out W' hb').2.2.at_ 1⟩)
      obtain ⟨x0, u0, x1, x2, x3⟩ := KK.out W1.drew BD.out
      gi_wp2_with fail
      refine region_round (by kernel_rfl) (by kernel_rfl) ?_
      refine wpAnyIn_take (i := 1) (oi := ({ dst := some 18, op := Op.fieldAddr 74 (Operand.tmp 8) 1, type := 0, pos := "l11_release.go:141", after := #[], guard := none } : Oper)) (v := ?_) rfl rfl (by kernel_rfl) (by kernel_rfl) (by kernel_rfl) (fun _ _ _ h => h) ⟨Or.inl ⟨by rfl, ?_⟩, fun _ => rfl⟩ ?_
      rotate_left
      · (intro w; go_simp <;> with_reducible rfl)
      try simp only [Act.put, List.setIfInBounds_toArray, List.set_cons_zero, List.set_cons_succ]
      refine wpAnyIn_take (i := 3) (oi := ({ dst := some 20, op := Op.fieldAddr 90 (Operand.tmp 3) 0, type := 0, pos := "l11_release.go:141", after := #[], guard := none } : Oper)) (v := ?_) rfl rfl (by kernel_rfl) (by kernel_rfl) (by kernel_rfl) (fun _ _ _ h => h) ⟨Or.inl ⟨by rfl, ?_⟩, fun _ => rfl⟩ ?_
      rotate_left
      · (intro w; go_simp <;> with_reducible rfl)
      try simp only [Act.put, List.setIfInBounds_toArray, List.set_cons_zero, List.set_cons_succ]
      refine wpAnyIn_take (i := 4) (oi := ({ dst := some 21, op := Op.fieldAddr 52 (Operand.tmp 20) 0, type := 0, pos := "l11_release.go:141", after := #[{ on := 3, ground := Ground.data }], guard := none } : Oper)) (v := ?_) rfl rfl (by kernel_rfl) (by kernel_rfl) (by kernel_rfl) (fun _ _ _ h => h) ⟨Or.inl ⟨by rfl, ?_⟩, fun _ => rfl⟩ ?_
      rotate_left
      · (intro w; go_simp <;> with_reducible rfl)
      try simp only [Act.put, List.setIfInBounds_toArray, List.set_cons_zero, List.set_cons_succ]
      refine wpAnyIn_take (i := 5) (oi := ({ dst := some 22, op := Op.fieldAddr 28 (Operand.tmp 21) 1, type := 0, pos := "l11_release.go:141", after := #[{ on := 4, ground := Ground.data }], guard := none } : Oper)) (v := ?_) rfl rfl (by kernel_rfl) (by kernel_rfl) (by kernel_rfl) (fun _ _ _ h => h) ⟨Or.inl ⟨by rfl, ?_⟩, fun _ => rfl⟩ ?_
      rotate_left
      · (intro w; go_simp <;> with_reducible rfl)
      try simp only [Act.put, List.setIfInBounds_toArray, List.set_cons_zero, List.set_cons_succ]
      refine wpAnyIn_ready (rs := [0, 2, 6]) (by kernel_rfl) (by simp) ?_
      refine AllReadyIn.cons (o := ({ dst := some 17, op := Op.load 88 (Operand.tmp 7), type := 88, pos := "l11_release.go:141", after := #[], guard := none } : Oper)) rfl (fun K hK => ?_) ?_
      · go_simp
        refine hK _ _ ?_
        clear hK K
        try simp only [Act.put, List.setIfInBounds_toArray, List.set_cons_zero, List.set_cons_succ]
        refine wpAnyIn_ready (rs := [2, 6]) (by kernel_rfl) (by simp) ?_
        refine AllReadyIn.cons (o := ({ dst := some 19, op := Op.load 72 (Operand.tmp 18), type := 72, pos := "l11_release.go:141", after := #[{ on := 1, ground := Ground.data }], guard := none } : Oper)) rfl (fun K hK => ?_) ?_
        · go_simp
          refine hK _ _ ?_
          clear hK K
          try simp only [Act.put, List.setIfInBounds_toArray, List.set_cons_zero, List.set_cons_succ]
          refine wpAnyIn_ready (rs := [6]) (by kernel_rfl) (by simp) ?_
          refine AllReadyIn.cons (o := ({ dst := some 23, op := Op.load 2 (Operand.tmp 22), type := 2, pos := "l11_release.go:141", after := #[{ on := 5, ground := Ground.data }], guard := none } : Oper)) rfl (fun K hK => ?_) ?_
          · go_simp
            refine hK _ _ ?_
            clear hK K
            try simp only [Act.put, List.setIfInBounds_toArray, List.set_cons_zero, List.set_cons_succ]
            refine wpAnyIn_ready (rs := [7]) (by kernel_rfl) (by simp) ?_
            refine AllReadyIn.cons (o := ({ dst := some 24, op := Op.call { callee := Callee.value (Operand.func 50), args := #[Operand.tmp 19, Operand.tmp 23], argTypes := #[72, 2] }, type := 2, pos := "l11_release.go:141", after := #[{ on := 2, ground := Ground.data }, { on := 6, ground := Ground.data }], guard := none } : Oper)) rfl (fun K hK => ?_) ?_
            · go_simp
              refine ⟨trivial, fun _ => by omega, (callsIn_wide.2 (CP.out _)).mono ?_⟩
              rintro e wA ⟨rfl, bA⟩
              have BA := Lib.hid (bt BD.out bA)
              clear bA
              have y0 := (KK.out wA BA.out).1; have z0 := (KK.out wA BA.out).2.1
              refine hK _ _ ?_
              clear hK K
              try simp only [Act.put, List.setIfInBounds_toArray, List.set_cons_zero, List.set_cons_succ]
              refine wpAnyIn_ready (rs := [8]) (by kernel_rfl) (by simp) ?_
              refine AllReadyIn.cons (o := ({ dst := some 25, op := Op.call { callee := Callee.value (Operand.func 113), args := #[Operand.tmp 17, Operand.tmp 24], argTypes := #[88, 2] }, type := 88, pos := "l11_release.go:141", after := #[{ on := 0, ground := Ground.data }, { on := 7, ground := Ground.data }, { on := 7, ground := Ground.chain }], guard := none } : Oper)) rfl (fun K hK => ?_) ?_
              · go_simp
                refine ⟨trivial, fun _ => by omega, (callsIn_wide.2 (CW.out _)).mono ?_⟩
                rintro e wW ⟨rfl, rfl⟩
                refine hK _ _ ?_
                clear hK K
                try simp only [Act.put, List.setIfInBounds_toArray, List.set_cons_zero, List.set_cons_succ]
                refine wpAnyIn_ready (rs := [9]) (by kernel_rfl) (by simp) ?_
                refine AllReadyIn.cons (o := ({ dst := none, op := Op.store 88 (Operand.tmp 7) (Operand.tmp 25), type := 0, pos := "l11_release.go:141", after := #[{ on := 8, ground := Ground.data }, { on := 8, ground := Ground.chain }, { on := 0, ground := Ground.phase }, { on := 1, ground := Ground.phase }, { on := 2, ground := Ground.phase }, { on := 3, ground := Ground.phase }, { on := 4, ground := Ground.phase }, { on := 5, ground := Ground.phase }, { on := 6, ground := Ground.phase }, { on := 7, ground := Ground.phase }, { on := 8, ground := Ground.phase }], guard := none } : Oper)) rfl (fun K hK => ?_) ?_
                · go_simp
                  refine hK _ _ ?_
                  clear hK K
                  try simp only [Act.put, List.setIfInBounds_toArray, List.set_cons_zero, List.set_cons_succ]
                  refine wpAnyIn_done (by kernel_rfl) ?_ _
                  gi_wp2_with fail
                  have PB := Lib.hid (Whole.put (KX.out wA BA.out).1 0 (.int .u64 ((Rl.sN ls ||| 2 ^ N : Nat) : Int)))
                  have BQ := Lib.hid ((BX.of (n := W0.heap.size) (x := w.heap.size + 1 + 1) (BA.out.mono hB1.size)).trans (BX.put wA 0 (.int .u64 ((Rl.sN ls ||| 2 ^ N : Nat) : Int))))
                  exact ⟨(keeps_below BA.out).trans ((KeepsOthers.setCell _ _ _).from _), BQ.out, by rw [E.out]; exact PB.out, hB1.trans BQ.out⟩
                exact AllReadyIn.nil
              exact AllReadyIn.nil
            exact AllReadyIn.nil
          exact AllReadyIn.nil
        refine AllReadyIn.cons (o := ({ dst := some 23, op := Op.load 2 (Operand.tmp 22), type := 2, pos := "l11_release.go:141", after := #[{ on := 5, ground := Ground.data }], guard := none } : Oper)) rfl (fun K hK => ?_) ?_
        · go_simp
          refine hK _ _ ?_
          clear hK K
          try simp only [Act.put, List.setIfInBounds_toArray, List.set_cons_zero, List.set_cons_succ]
          refine wpAnyIn_ready (rs := [2]) (by kernel_rfl) (by simp) ?_
          refine AllReadyIn.cons (o := ({ dst := some 19, op := Op.load 72 (Operand.tmp 18), type := 72, pos := "l11_release.go:141", after := #[{ on := 1, ground := Ground.data }], guard := none } : Oper)) rfl (fun K hK => ?_) ?_
          · go_simp
            refine hK _ _ ?_
            clear hK K
            try simp only [Act.put, List.setIfInBounds_toArray, List.set_cons_zero, List.set_cons_succ]
            refine wpAnyIn_ready (rs := [7]) (by kernel_rfl) (by simp) ?_
            refine AllReadyIn.cons (o := ({ dst := some 24, op := Op.call { callee := Callee.value (Operand.func 50), args := #[Operand.tmp 19, Operand.tmp 23], argTypes := #[72, 2] }, type := 2, pos := "l11_release.go:141", after := #[{ on := 2, ground := Ground.data }, { on := 6, ground := Ground.data }], guard := none } : Oper)) rfl (fun K hK => ?_) ?_
            · go_simp
              refine ⟨trivial, fun _ => by omega, (callsIn_wide.2 (CP.out _)).mono ?_⟩
              rintro e wA ⟨rfl, bA⟩
              have BA := Lib.hid (bt BD.out bA)
              clear bA
              have y0 := (KK.out wA BA.out).1; have z0 := (KK.out wA BA.out).2.1
              refine hK _ _ ?_
              clear hK K
              try simp only [Act.put, List.setIfInBounds_toArray, List.set_cons_zero, List.set_cons_succ]
              refine wpAnyIn_ready (rs := [8]) (by kernel_rfl) (by simp) ?_
              refine AllReadyIn.cons (o := ({ dst := some 25, op := Op.call { callee := Callee.value (Operand.func 113), args := #[Operand.tmp 17, Operand.tmp 24], argTypes := #[88, 2] }, type := 88, pos := "l11_release.go:141", after := #[{ on := 0, ground := Ground.data }, { on := 7, ground := Ground.data }, { on := 7, ground := Ground.chain }], guard := none } : Oper)) rfl (fun K hK => ?_) ?_
              · go_simp
                refine ⟨trivial, fun _ => by omega, (callsIn_wide.2 (CW.out _)).mono ?_⟩
                rintro e wW ⟨rfl, rfl⟩
                refine hK _ _ ?_
                clear hK K
                try simp only [Act.put, List.setIfInBounds_toArray, List.set_cons_zero, List.set_cons_succ]
                refine wpAnyIn_ready (rs := [9]) (by kernel_rfl) (by simp) ?_
                refine AllReadyIn.cons (o := ({ dst := none, op := Op.store 88 (Operand.tmp 7) (Operand.tmp 25), type := 0, pos := "l11_release.go:141", after := #[{ on := 8, ground := Ground.data }, { on := 8, ground := Ground.chain }, { on := 0, ground := Ground.phase }, { on := 1, ground := Ground.phase }, { on := 2, ground := Ground.phase }, { on := 3, ground := Ground.phase }, { on := 4, ground := Ground.phase }, { on := 5, ground := Ground.phase }, { on := 6, ground := Ground.phase }, { on := 7, ground := Ground.phase }, { on := 8, ground := Ground.phase }], guard := none } : Oper)) rfl (fun K hK => ?_) ?_
                · go_simp
                  refine hK _ _ ?_
                  clear hK K
                  try simp only [Act.put, List.setIfInBounds_toArray, List.set_cons_zero, List.set_cons_succ]
                  refine wpAnyIn_done (by kernel_rfl) ?_ _
                  gi_wp2_with fail
                  have PB := Lib.hid (Whole.put (KX.out wA BA.out).1 0 (.int .u64 ((Rl.sN ls ||| 2 ^ N : Nat) : Int)))
                  have BQ := Lib.hid ((BX.of (n := W0.heap.size) (x := w.heap.size + 1 + 1) (BA.out.mono hB1.size)).trans (BX.put wA 0 (.int .u64 ((Rl.sN ls ||| 2 ^ N : Nat) : Int))))
                  exact ⟨(keeps_below BA.out).trans ((KeepsOthers.setCell _ _ _).from _), BQ.out, by rw [E.out]; exact PB.out, hB1.trans BQ.out⟩
                exact AllReadyIn.nil
              exact AllReadyIn.nil
            exact AllReadyIn.nil
          exact AllReadyIn.nil
        exact AllReadyIn.nil
      refine AllReadyIn.cons (o := ({ dst := some 19, op := Op.load 72 (Operand.tmp 18), type := 72, pos := "l11_release.go:141", after := #[{ on := 1, ground := Ground.data }], guard := none } : Oper)) rfl (fun K hK => ?_) ?_
      · go_simp
        refine hK _ _ ?_
        clear hK K
        try simp only [Act.put, List.setIfInBounds_toArray, List.set_cons_zero, List.set_cons_succ]
        refine wpAnyIn_ready (rs := [0, 6]) (by kernel_rfl) (by simp) ?_
        refine AllReadyIn.cons (o := ({ dst := some 17, op := Op.load 88 (Operand.tmp 7), type := 88, pos := "l11_release.go:141", after := #[], guard := none } : Oper)) rfl (fun K hK => ?_) ?_
        · go_simp
          refine hK _ _ ?_
          clear hK K
          try simp only [Act.put, List.setIfInBounds_toArray, List.set_cons_zero, List.set_cons_succ]
          refine wpAnyIn_ready (rs := [6]) (by kernel_rfl) (by simp) ?_
          refine AllReadyIn.cons (o := ({ dst := some 23, op := Op.load 2 (Operand.tmp 22), type := 2, pos := "l11_release.go:141", after := #[{ on := 5, ground := Ground.data }], guard := none } : Oper)) rfl (fun K hK => ?_) ?_
          · go_simp
            refine hK _ _ ?_
            clear hK K
            try simp only [Act.put, List.setIfInBounds_toArray, List.set_cons_zero, List.set_cons_succ]
            refine wpAnyIn_ready (rs := [7]) (by kernel_rfl) (by simp) ?_
            refine AllReadyIn.cons (o := ({ dst := some 24, op := Op.call { callee := Callee.value (Operand.func 50), args := #[Operand.tmp 19, Operand.tmp 23], argTypes := #[72, 2] }, type := 2, pos := "l11_release.go:141", after := #[{ on := 2, ground := Ground.data }, { on := 6, ground := Ground.data }], guard := none } : Oper)) rfl (fun K hK => ?_) ?_
            · go_simp
              refine ⟨trivial, fun _ => by omega, (callsIn_wide.2 (CP.out _)).mono ?_⟩
              rintro e wA ⟨rfl, bA⟩
              have BA := Lib.hid (bt BD.out bA)
              clear bA
              have y0 := (KK.out wA BA.out).1; have z0 := (KK.out wA BA.out).2.1
              refine hK _ _ ?_
              clear hK K
              try simp only [Act.put, List.setIfInBounds_toArray, List.set_cons_zero, List.set_cons_succ]
              refine wpAnyIn_ready (rs := [8]) (by kernel_rfl) (by simp) ?_
              refine AllReadyIn.cons (o := ({ dst := some 25, op := Op.call { callee := Callee.value (Operand.func 113), args := #[Operand.tmp 17, Operand.tmp 24], argTypes := #[88, 2] }, type := 88, pos := "l11_release.go:141", after := #[{ on := 0, ground := Ground.data }, { on := 7, ground := Ground.data }, { on := 7, ground := Ground.chain }], guard := none } : Oper)) rfl (fun K hK => ?_) ?_
              · go_simp
                refine ⟨trivial, fun _ => by omega, (callsIn_wide.2 (CW.out _)).mono ?_⟩
                rintro e wW ⟨rfl, rfl⟩
                refine hK _ _ ?_
                clear hK K
                try simp only [Act.put, List.setIfInBounds_toArray, List.set_cons_zero, List.set_cons_succ]
                refine wpAnyIn_ready (rs := [9]) (by kernel_rfl) (by simp) ?_
                refine AllReadyIn.cons (o := ({ dst := none, op := Op.store 88 (Operand.tmp 7) (Operand.tmp 25), type := 0, pos := "l11_release.go:141", after := #[{ on := 8, ground := Ground.data }, { on := 8, ground := Ground.chain }, { on := 0, ground := Ground.phase }, { on := 1, ground := Ground.phase }, { on := 2, ground := Ground.phase }, { on := 3, ground := Ground.phase }, { on := 4, ground := Ground.phase }, { on := 5, ground := Ground.phase }, { on := 6, ground := Ground.phase }, { on := 7, ground := Ground.phase }, { on := 8, ground := Ground.phase }], guard := none } : Oper)) rfl (fun K hK => ?_) ?_
                · go_simp
                  refine hK _ _ ?_
                  clear hK K
                  try simp only [Act.put, List.setIfInBounds_toArray, List.set_cons_zero, List.set_cons_succ]
                  refine wpAnyIn_done (by kernel_rfl) ?_ _
                  gi_wp2_with fail
                  have PB := Lib.hid (Whole.put (KX.out wA BA.out).1 0 (.int .u64 ((Rl.sN ls ||| 2 ^ N : Nat) : Int)))
                  have BQ := Lib.hid ((BX.of (n := W0.heap.size) (x := w.heap.size + 1 + 1) (BA.out.mono hB1.size)).trans (BX.put wA 0 (.int .u64 ((Rl.sN ls ||| 2 ^ N : Nat) : Int))))
                  exact ⟨(keeps_below BA.out).trans ((KeepsOthers.setCell _ _ _).from _), BQ.out, by rw [E.out]; exact PB.out, hB1.trans BQ.out⟩
                exact AllReadyIn.nil
              exact AllReadyIn.nil
            exact AllReadyIn.nil
          exact AllReadyIn.nil
        refine AllReadyIn.cons (o := ({ dst := some 23, op := Op.load 2 (Operand.tmp 22), type := 2, pos := "l11_release.go:141", after := #[{ on := 5, ground := Ground.data }], guard := none } : Oper)) rfl (fun K hK => ?_) ?_
        · go_simp
          refine hK _ _ ?_
          clear hK K
          try simp only [Act.put, List.setIfInBounds_toArray, List.set_cons_zero, List.set_cons_succ]
          refine wpAnyIn_ready (rs := [0, 7]) (by kernel_rfl) (by simp) ?_
          refine AllReadyIn.cons (o := ({ dst := some 17, op := Op.load 88 (Operand.tmp 7), type := 88, pos := "l11_release.go:141", after := #[], guard := none } : Oper)) rfl (fun K hK => ?_) ?_
          · go_simp
            refine hK _ _ ?_
            clear hK K
            try simp only [Act.put, List.setIfInBounds_toArray, List.set_cons_zero, List.set_cons_succ]
            refine wpAnyIn_ready (rs := [7]) (by kernel_rfl) (by simp) ?_
            refine AllReadyIn.cons (o := ({ dst := some 24, op := Op.call { callee := Callee.value (Operand.func 50), args := #[Operand.tmp 19, Operand.tmp 23], argTypes := #[72, 2] }, type := 2, pos := "l11_release.go:141", after := #[{ on := 2, ground := Ground.data }, { on := 6, ground := Ground.data }], guard := none } : Oper)) rfl (fun K hK => ?_) ?_
            · go_simp
              refine ⟨trivial, fun _ => by omega, (callsIn_wide.2 (CP.out _)).mono ?_⟩
              rintro e wA ⟨rfl, bA⟩
              have BA := Lib.hid (bt BD.out bA)
              clear bA
              have y0 := (KK.out wA BA.out).1; have z0 := (KK.out wA BA.out).2.1
              refine hK _ _ ?_
              clear hK K
              try simp only [Act.put, List.setIfInBounds_toArray, List.set_cons_zero, List.set_cons_succ]
              refine wpAnyIn_ready (rs := [8]) (by kernel_rfl) (by simp) ?_
              refine AllReadyIn.cons (o := ({ dst := some 25, op := Op.call { callee := Callee.value (Operand.func 113), args := #[Operand.tmp 17, Operand.tmp 24], argTypes := #[88, 2] }, type := 88, pos := "l11_release.go:141", after := #[{ on := 0, ground := Ground.data }, { on := 7, ground := Ground.data }, { on := 7, ground := Ground.chain }], guard := none } : Oper)) rfl (fun K hK => ?_) ?_
              · go_simp
                refine ⟨trivial, fun _ => by omega, (callsIn_wide.2 (CW.out _)).mono ?_⟩
                rintro e wW ⟨rfl, rfl⟩
                refine hK _ _ ?_
                clear hK K
                try simp only [Act.put, List.setIfInBounds_toArray, List.set_cons_zero, List.set_cons_succ]
                refine wpAnyIn_ready (rs := [9]) (by kernel_rfl) (by simp) ?_
                refine AllReadyIn.cons (o := ({ dst := none, op := Op.store 88 (Operand.tmp 7) (Operand.tmp 25), type := 0, pos := "l11_release.go:141", after := #[{ on := 8, ground := Ground.data }, { on := 8, ground := Ground.chain }, { on := 0, ground := Ground.phase }, { on := 1, ground := Ground.phase }, { on := 2, ground := Ground.phase }, { on := 3, ground := Ground.phase }, { on := 4, ground := Ground.phase }, { on := 5, ground := Ground.phase }, { on := 6, ground := Ground.phase }, { on := 7, ground := Ground.phase }, { on := 8, ground := Ground.phase }], guard := none } : Oper)) rfl (fun K hK => ?_) ?_
                · go_simp
                  refine hK _ _ ?_
                  clear hK K
                  try simp only [Act.put, List.setIfInBounds_toArray, List.set_cons_zero, List.set_cons_succ]
                  refine wpAnyIn_done (by kernel_rfl) ?_ _
                  gi_wp2_with fail
                  have PB := Lib.hid (Whole.put (KX.out wA BA.out).1 0 (.int .u64 ((Rl.sN ls ||| 2 ^ N : Nat) : Int)))
                  have BQ := Lib.hid ((BX.of (n := W0.heap.size) (x := w.heap.size + 1 + 1) (BA.out.mono hB1.size)).trans (BX.put wA 0 (.int .u64 ((Rl.sN ls ||| 2 ^ N : Nat) : Int))))
                  exact ⟨(keeps_below BA.out).trans ((KeepsOthers.setCell _ _ _).from _), BQ.out, by rw [E.out]; exact PB.out, hB1.trans BQ.out⟩
                exact AllReadyIn.nil
              exact AllReadyIn.nil
            exact AllReadyIn.nil
          refine AllReadyIn.cons (o := ({ dst := some 24, op := Op.call { callee := Callee.value (Operand.func 50), args := #[Operand.tmp 19, Operand.tmp 23], argTypes := #[72, 2] }, type := 2, pos := "l11_release.go:141", after := #[{ on := 2, ground := Ground.data }, { on := 6, ground := Ground.data }], guard := none } : Oper)) rfl (fun K hK => ?_) ?_
          · go_simp
            refine ⟨trivial, fun _ => by omega, (callsIn_wide.2 (CP.out _)).mono ?_⟩
            rintro e wA ⟨rfl, bA⟩
            have BA := Lib.hid (bt BD.out bA)
            clear bA
            have y0 := (KK.out wA BA.out).1; have z0 := (KK.out wA BA.out).2.1
            refine hK _ _ ?_
            clear hK K
            try simp only [Act.put, List.setIfInBounds_toArray, List.set_cons_zero, List.set_cons_succ]
            refine wpAnyIn_ready (rs := [0]) (by kernel_rfl) (by simp) ?_
            refine AllReadyIn.cons (o := ({ dst := some 17, op := Op.load 88 (Operand.tmp 7), type := 88, pos := "l11_release.go:141", after := #[], guard := none } : Oper)) rfl (fun K hK => ?_) ?_
            · go_simp
              refine hK _ _ ?_
              clear hK K
              try simp only [Act.put, List.setIfInBounds_toArray, List.set_cons_zero, List.set_cons_succ]
              refine wpAnyIn_ready (rs := [8]) (by kernel_rfl) (by simp) ?_
              refine AllReadyIn.cons (o := ({ dst := some 25, op := Op.call { callee := Callee.value (Operand.func 113), args := #[Operand.tmp 17, Operand.tmp 24], argTypes := #[88, 2] }, type := 88, pos := "l11_release.go:141", after := #[{ on := 0, ground := Ground.data }, { on := 7, ground := Ground.data }, { on := 7, ground := Ground.chain }], guard := none } : Oper)) rfl (fun K hK => ?_) ?_
              · go_simp
                refine ⟨trivial, fun _ => by omega, (callsIn_wide.2 (CW.out _)).mono ?_⟩
                rintro e wW ⟨rfl, rfl⟩
                refine hK _ _ ?_
                clear hK K
                try simp only [Act.put, List.setIfInBounds_toArray, List.set_cons_zero, List.set_cons_succ]
                refine wpAnyIn_ready (rs := [9]) (by kernel_rfl) (by simp) ?_
                refine AllReadyIn.cons (o := ({ dst := none, op := Op.store 88 (Operand.tmp 7) (Operand.tmp 25), type := 0, pos := "l11_release.go:141", after := #[{ on := 8, ground := Ground.data }, { on := 8, ground := Ground.chain }, { on := 0, ground := Ground.phase }, { on := 1, ground := Ground.phase }, { on := 2, ground := Ground.phase }, { on := 3, ground := Ground.phase }, { on := 4, ground := Ground.phase }, { on := 5, ground := Ground.phase }, { on := 6, ground := Ground.phase }, { on := 7, ground := Ground.phase }, { on := 8, ground := Ground.phase }], guard := none } : Oper)) rfl (fun K hK => ?_) ?_
                · go_simp
                  refine hK _ _ ?_
                  clear hK K
                  try simp only [Act.put, List.setIfInBounds_toArray, List.set_cons_zero, List.set_cons_succ]
                  refine wpAnyIn_done (by kernel_rfl) ?_ _
                  gi_wp2_with fail
                  have PB := Lib.hid (Whole.put (KX.out wA BA.out).1 0 (.int .u64 ((Rl.sN ls ||| 2 ^ N : Nat) : Int)))
                  have BQ := Lib.hid ((BX.of (n := W0.heap.size) (x := w.heap.size + 1 + 1) (BA.out.mono hB1.size)).trans (BX.put wA 0 (.int .u64 ((Rl.sN ls ||| 2 ^ N : Nat) : Int))))
                  exact ⟨(keeps_below BA.out).trans ((KeepsOthers.setCell _ _ _).from _), BQ.out, by rw [E.out]; exact PB.out, hB1.trans BQ.out⟩
                exact AllReadyIn.nil
              exact AllReadyIn.nil
            exact AllReadyIn.nil
          exact AllReadyIn.nil
        exact AllReadyIn.nil
      refine AllReadyIn.cons (o := ({ dst := some 23, op := Op.load 2 (Operand.tmp 22), type := 2, pos := "l11_release.go:141", after := #[{ on := 5, ground := Ground.data }], guard := none } : Oper)) rfl (fun K hK => ?_) ?_
      · go_simp
        refine hK _ _ ?_
        clear hK K
        try simp only [Act.put, List.setIfInBounds_toArray, List.set_cons_zero, List.set_cons_succ]
        refine wpAnyIn_ready (rs := [0, 2]) (by kernel_rfl) (by simp) ?_
        refine AllReadyIn.cons (o := ({ dst := some 17, op := Op.load 88 (Operand.tmp 7), type := 88, pos := "l11_release.go:141", after := #[], guard := none } : Oper)) rfl (fun K hK => ?_) ?_
        · go_simp
          refine hK _ _ ?_
          clear hK K
          try simp only [Act.put, List.setIfInBounds_toArray, List.set_cons_zero, List.set_cons_succ]
          refine wpAnyIn_ready (rs := [2]) (by kernel_rfl) (by simp) ?_
          refine AllReadyIn.cons (o := ({ dst := some 19, op := Op.load 72 (Operand.tmp 18), type := 72, pos := "l11_release.go:141", after := #[{ on := 1, ground := Ground.data }], guard := none } : Oper)) rfl (fun K hK => ?_) ?_
          · go_simp
            refine hK _ _ ?_
            clear hK K
            try simp only [Act.put, List.setIfInBounds_toArray, List.set_cons_zero, List.set_cons_succ]
            refine wpAnyIn_ready (rs := [7]) (by kernel_rfl) (by simp) ?_
            refine AllReadyIn.cons (o := ({ dst := some 24, op := Op.call { callee := Callee.value (Operand.func 50), args := #[Operand.tmp 19, Operand.tmp 23], argTypes := #[72, 2] }, type := 2, pos := "l11_release.go:141", after := #[{ on := 2, ground := Ground.data }, { on := 6, ground := Ground.data }], guard := none } : Oper)) rfl (fun K hK => ?_) ?_
            · go_simp
              refine ⟨trivial, fun _ => by omega, (callsIn_wide.2 (CP.out _)).mono ?_⟩
              rintro e wA ⟨rfl, bA⟩
              have BA := Lib.hid (bt BD.out bA)
              clear bA
              have y0 := (KK.out wA BA.out).1; have z0 := (KK.out wA BA.out).2.1
              refine hK _ _ ?_
              clear hK K
              try simp only [Act.put, List.setIfInBounds_toArray, List.set_cons_zero, List.set_cons_succ]
              refine wpAnyIn_ready (rs := [8]) (by kernel_rfl) (by simp) ?_
              refine AllReadyIn.cons (o := ({ dst := some 25, op := Op.call { callee := Callee.value (Operand.func 113), args := #[Operand.tmp 17, Operand.tmp 24], argTypes := #[88, 2] }, type := 88, pos := "l11_release.go:141", after := #[{ on := 0, ground := Ground.data }, { on := 7, ground := Ground.data }, { on := 7, ground := Ground.chain }], guard := none } : Oper)) rfl (fun K hK => ?_) ?_
              · go_simp
                refine ⟨trivial, fun _ => by omega, (callsIn_wide.2 (CW.out _)).mono ?_⟩
                rintro e wW ⟨rfl, rfl⟩
                refine hK _ _ ?_
                clear hK K
                try simp only [Act.put, List.setIfInBounds_toArray, List.set_cons_zero, List.set_cons_succ]
                refine wpAnyIn_ready (rs := [9]) (by kernel_rfl) (by simp) ?_
                refine AllReadyIn.cons (o := ({ dst := none, op := Op.store 88 (Operand.tmp 7) (Operand.tmp 25), type := 0, pos := "l11_release.go:141", after := #[{ on := 8, ground := Ground.data }, { on := 8, ground := Ground.chain }, { on := 0, ground := Ground.phase }, { on := 1, ground := Ground.phase }, { on := 2, ground := Ground.phase }, { on := 3, ground := Ground.phase }, { on := 4, ground := Ground.phase }, { on := 5, ground := Ground.phase }, { on := 6, ground := Ground.phase }, { on := 7, ground := Ground.phase }, { on := 8, ground := Ground.phase }], guard := none } : Oper)) rfl (fun K hK => ?_) ?_
                · go_simp
                  refine hK _ _ ?_
                  clear hK K
                  try simp only [Act.put, List.setIfInBounds_toArray, List.set_cons_zero, List.set_cons_succ]
                  refine wpAnyIn_done (by kernel_rfl) ?_ _
                  gi_wp2_with fail
                  have PB := Lib.hid (Whole.put (KX.out wA BA.out).1 0 (.int .u64 ((Rl.sN ls ||| 2 ^ N : Nat) : Int)))
                  have BQ := Lib.hid ((BX.of (n := W0.heap.size) (x := w.heap.size + 1 + 1) (BA.out.mono hB1.size)).trans (BX.put wA 0 (.int .u64 ((Rl.sN ls ||| 2 ^ N : Nat) : Int))))
                  exact ⟨(keeps_below BA.out).trans ((KeepsOthers.setCell _ _ _).from _), BQ.out, by rw [E.out]; exact PB.out, hB1.trans BQ.out⟩
                exact AllReadyIn.nil
              exact AllReadyIn.nil
            exact AllReadyIn.nil
          exact AllReadyIn.nil
        refine AllReadyIn.cons (o := ({ dst := some 19, op := Op.load 72 (Operand.tmp 18), type := 72, pos := "l11_release.go:141", after := #[{ on := 1, ground := Ground.data }], guard := none } : Oper)) rfl (fun K hK => ?_) ?_
        · go_simp
          refine hK _ _ ?_
          clear hK K
          try simp only [Act.put, List.setIfInBounds_toArray, List.set_cons_zero, List.set_cons_succ]
          refine wpAnyIn_ready (rs := [0, 7]) (by kernel_rfl) (by simp) ?_
          refine AllReadyIn.cons (o := ({ dst := some 17, op := Op.load 88 (Operand.tmp 7), type := 88, pos := "l11_release.go:141", after := #[], guard := none } : Oper)) rfl (fun K hK => ?_) ?_
          · go_simp
            refine hK _ _ ?_
            clear hK K
            try simp only [Act.put, List.setIfInBounds_toArray, List.set_cons_zero, List.set_cons_succ]
            refine wpAnyIn_ready (rs := [7]) (by kernel_rfl) (by simp) ?_
            refine AllReadyIn.cons (o := ({ dst := some 24, op := Op.call { callee := Callee.value (Operand.func 50), args := #[Operand.tmp 19, Operand.tmp 23], argTypes := #[72, 2] }, type := 2, pos := "l11_release.go:141", after := #[{ on := 2, ground := Ground.data }, { on := 6, ground := Ground.data }], guard := none } : Oper)) rfl (fun K hK => ?_) ?_
            · go_simp
              refine ⟨trivial, fun _ => by omega, (callsIn_wide.2 (CP.out _)).mono ?_⟩
              rintro e wA ⟨rfl, bA⟩
              have BA := Lib.hid (bt BD.out bA)
              clear bA
              have y0 := (KK.out wA BA.out).1; have z0 := (KK.out wA BA.out).2.1
              refine hK _ _ ?_
              clear hK K
              try simp only [Act.put, List.setIfInBounds_toArray, List.set_cons_zero, List.set_cons_succ]
              refine wpAnyIn_ready (rs := [8]) (by kernel_rfl) (by simp) ?_
              refine AllReadyIn.cons (o := ({ dst := some 25, op := Op.call { callee := Callee.value (Operand.func 113), args := #[Operand.tmp 17, Operand.tmp 24], argTypes := #[88, 2] }, type := 88, pos := "l11_release.go:141", after := #[{ on := 0, ground := Ground.data }, { on := 7, ground := Ground.data }, { on := 7, ground := Ground.chain }], guard := none } : Oper)) rfl (fun K hK => ?_) ?_
              · go_simp
                refine ⟨trivial, fun _ => by omega, (callsIn_wide.2 (CW.out _)).mono ?_⟩
                rintro e wW ⟨rfl, rfl⟩
                refine hK _ _ ?_
                clear hK K
                try simp only [Act.put, List.setIfInBounds_toArray, List.set_cons_zero, List.set_cons_succ]
                refine wpAnyIn_ready (rs := [9]) (by kernel_rfl) (by simp) ?_
                refine AllReadyIn.cons (o := ({ dst := none, op := Op.store 88 (Operand.tmp 7) (Operand.tmp 25), type := 0, pos := "l11_release.go:141", after := #[{ on := 8, ground := Ground.data }, { on := 8, ground := Ground.chain }, { on := 0, ground := Ground.phase }, { on := 1, ground := Ground.phase }, { on := 2, ground := Ground.phase }, { on := 3, ground := Ground.phase }, { on := 4, ground := Ground.phase }, { on := 5, ground := Ground.phase }, { on := 6, ground := Ground.phase }, { on := 7, ground := Ground.phase }, { on := 8, ground := Ground.phase }], guard := none } : Oper)) rfl (fun K hK => ?_) ?_
                · go_simp
                  refine hK _ _ ?_
                  clear hK K
                  try simp only [Act.put, List.setIfInBounds_toArray, List.set_cons_zero, List.set_cons_succ]
                  refine wpAnyIn_done (by kernel_rfl) ?_ _
                  gi_wp2_with fail
                  have PB := Lib.hid (Whole.put (KX.out wA BA.out).1 0 (.int .u64 ((Rl.sN ls ||| 2 ^ N : Nat) : Int)))
                  have BQ := Lib.hid ((BX.of (n := W0.heap.size) (x := w.heap.size + 1 + 1) (BA.out.mono hB1.size)).trans (BX.put wA 0 (.int .u64 ((Rl.sN ls ||| 2 ^ N : Nat) : Int))))
                  exact ⟨(keeps_below BA.out).trans ((KeepsOthers.setCell _ _ _).from _), BQ.out, by rw [E.out]; exact PB.out, hB1.trans BQ.out⟩
                exact AllReadyIn.nil
              exact AllReadyIn.nil
            exact AllReadyIn.nil
          refine AllReadyIn.cons (o := ({ dst := some 24, op := Op.call { callee := Callee.value (Operand.func 50), args := #[Operand.tmp 19, Operand.tmp 23], argTypes := #[72, 2] }, type := 2, pos := "l11_release.go:141", after := #[{ on := 2, ground := Ground.data }, { on := 6, ground := Ground.data }], guard := none } : Oper)) rfl (fun K hK => ?_) ?_
          · go_simp
            refine ⟨trivial, fun _ => by omega, (callsIn_wide.2 (CP.out _)).mono ?_⟩
            rintro e wA ⟨rfl, bA⟩
            have BA := Lib.hid (bt BD.out bA)
            clear bA
            have y0 := (KK.out wA BA.out).1; have z0 := (KK.out wA BA.out).2.1
            refine hK _ _ ?_
            clear hK K
            try simp only [Act.put, List.setIfInBounds_toArray, List.set_cons_zero, List.set_cons_succ]
            refine wpAnyIn_ready (rs := [0]) (by kernel_rfl) (by simp) ?_
            refine AllReadyIn.cons (o := ({ dst := some 17, op := Op.load 88 (Operand.tmp 7), type := 88, pos := "l11_release.go:141", after := #[], guard := none } : Oper)) rfl (fun K hK => ?_) ?_
            · go_simp
              refine hK _ _ ?_
              clear hK K
              try simp only [Act.put, List.setIfInBounds_toArray, List.set_cons_zero, List.set_cons_succ]
              refine wpAnyIn_ready (rs := [8]) (by kernel_rfl) (by simp) ?_
              refine AllReadyIn.cons (o := ({ dst := some 25, op := Op.call { callee := Callee.value (Operand.func 113), args := #[Operand.tmp 17, Operand.tmp 24], argTypes := #[88, 2] }, type := 88, pos := "l11_release.go:141", after := #[{ on := 0, ground := Ground.data }, { on := 7, ground := Ground.data }, { on := 7, ground := Ground.chain }], guard := none } : Oper)) rfl (fun K hK => ?_) ?_
              · go_simp
                refine ⟨trivial, fun _ => by omega, (callsIn_wide.2 (CW.out _)).mono ?_⟩
                rintro e wW ⟨rfl, rfl⟩
                refine hK _ _ ?_
                clear hK K
                try simp only [Act.put, List.setIfInBounds_toArray, List.set_cons_zero, List.set_cons_succ]
                refine wpAnyIn_ready (rs := [9]) (by kernel_rfl) (by simp) ?_
                refine AllReadyIn.cons (o := ({ dst := none, op := Op.store 88 (Operand.tmp 7) (Operand.tmp 25), type := 0, pos := "l11_release.go:141", after := #[{ on := 8, ground := Ground.data }, { on := 8, ground := Ground.chain }, { on := 0, ground := Ground.phase }, { on := 1, ground := Ground.phase }, { on := 2, ground := Ground.phase }, { on := 3, ground := Ground.phase }, { on := 4, ground := Ground.phase }, { on := 5, ground := Ground.phase }, { on := 6, ground := Ground.phase }, { on := 7, ground := Ground.phase }, { on := 8, ground := Ground.phase }], guard := none } : Oper)) rfl (fun K hK => ?_) ?_
                · go_simp
                  refine hK _ _ ?_
                  clear hK K
                  try simp only [Act.put, List.setIfInBounds_toArray, List.set_cons_zero, List.set_cons_succ]
                  refine wpAnyIn_done (by kernel_rfl) ?_ _
                  gi_wp2_with fail
                  have PB := Lib.hid (Whole.put (KX.out wA BA.out).1 0 (.int .u64 ((Rl.sN ls ||| 2 ^ N : Nat) : Int)))
                  have BQ := Lib.hid ((BX.of (n := W0.heap.size) (x := w.heap.size + 1 + 1) (BA.out.mono hB1.size)).trans (BX.put wA 0 (.int .u64 ((Rl.sN ls ||| 2 ^ N : Nat) : Int))))
                  exact ⟨(keeps_below BA.out).trans ((KeepsOthers.setCell _ _ _).from _), BQ.out, by rw [E.out]; exact PB.out, hB1.trans BQ.out⟩
                exact AllReadyIn.nil
              exact AllReadyIn.nil
            exact AllReadyIn.nil
          exact AllReadyIn.nil
        exact AllReadyIn.nil
      exact AllReadyIn.nil
  case done =>
    rintro D ys W hD hS ⟨bS1, hB1⟩ hK
    have hys : Gw.arL R C k p (ys.map (fun x => x.1)) = Gw.arL R C k p (Gw.dirs R C k) := congrArg _ hS
    obtain ⟨v0, hv0⟩ : ∃ v0, Rl.sN (Gw.arL R C k p (Gw.dirs R C k)) = v0 := ⟨_, rfl⟩
    rw [hys, hv0] at bS1
    have HV := Lib.hid hv0
    have BW : Hid (Below w.heap.size w W) := Lib.hid (B0.out.trans (hB1.toBelow (by omega) (by omega)))
    have y0 := bS1.at_ 0
    clear hys hv0 hS hA0
    gi_wp2_with fail
    refine ⟨by simp, .inl ⟨_, _, rfl, run_takeDeferred hK, ?_⟩⟩
    refine ⟨.int .u64 (v0 : Int), by simp [results, Tryd.results71, go_sem], by rw [HV.out], ?_⟩
    exact BW.out.trans (belowK_b (w := w) (Nat.le_refl _) W D _ _ (by omega) hK rfl rfl)
  case stop =>
    rintro D c pre W _ _ h _
    exact h.elim
end Go.Proofs.YthcmpalbhaefbaaDoor

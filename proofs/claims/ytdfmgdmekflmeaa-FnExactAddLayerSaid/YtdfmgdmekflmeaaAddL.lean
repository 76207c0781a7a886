/-
  AddLayer of chapter 3, by the program and by the model. No condition of its own.
-/
import Derived.Test.YtdfmgdmekflmeaaClone
import Derived.Deep.RegionHeld3
import Derived.Deep.AppendLies
namespace Go.Proofs.Ytdfmgdmekflmeaa
open Go.RowKit Go.Deep
set_option linter.unusedVariables false
set_option maxRecDepth 100000

namespace La
theorem fl_app1 (xs : List Lay) (x : Lay) : fl (xs ++ [x]) = fl xs ++ lv x := by
  unfold fl; simp
/-- what AddLayer answers -/
def adC (xs : List Lay) (x : Lay) : Int := if (okP xs && okL x) = true then (if xs.length = 16 then 5 else 0) else 1
def adR (xs : List Lay) (x : Lay) : List Lay := if (okP xs && okL x) = true then (if xs.length = 16 then [] else xs ++ [x]) else []
theorem ad_no {xs : List Lay} {x : Lay} (h : (okP xs && okL x) = false) : adC xs x = 1 ∧ adR xs x = [] := by unfold adC adR; simp [h]
theorem ad_full {xs : List Lay} {x : Lay} (h : (okP xs && okL x) = true) (h2 : xs.length = 16) : adC xs x = 5 ∧ adR xs x = [] := by unfold adC adR; simp [h, h2]
theorem ad_ok {xs : List Lay} {x : Lay} (h : (okP xs && okL x) = true) (h2 : xs.length ≠ 16) : adC xs x = 0 ∧ adR xs x = xs ++ [x] := by unfold adC adR; simp [h, h2]
end La
/-- what a call that answers a list of layers and a code leaves -/
def RLC (w : World) (c : Int) (xs : List Lay) (e : Ending) (w' : World) : Prop := ∃ u, e = .returned (.tuple #[u, .int .i64 c]) ∧ LOwn w.heap.size w' u xs ∧ Below w.heap.size w w'
theorem RLC.no {w w' : World} {c d : Int} {xs : List Lay} (h : d = c ∧ xs = []) (hb : Below w.heap.size w w') : RLC w d xs (.returned (.tuple #[.slice none 0 0, .int .i64 c])) w' := by
  obtain ⟨rfl, rfl⟩ := h
  exact ⟨_, rfl, LOwn.nil _ _, hb⟩
theorem RLC.yes {w w' : World} {c d : Int} {xs ys : List Lay} {u : Value} (h : d = c ∧ xs = ys) (ho : LOwn w.heap.size w' u ys) (hb : Below w.heap.size w w') : RLC w d xs (.returned (.tuple #[u, .int .i64 c])) w' := by
  obtain ⟨rfl, rfl⟩ := h
  exact ⟨_, rfl, ho, hb⟩

theorem below_drew1 (w : World) : Below w.heap.size w w.drew := below_drewW w 1
theorem below_alloc_drew (w : World) (o : Obj) : Below w.heap.size w (w.alloc o).drew := bt ((Below.refl _ _).alloc (Nat.le_refl _) o) (below_drewW _ 1)
theorem one_lay (x : Lay) : ∀ u ∈ iv (La.lv x), u.oneCell' = true := by
  intro u hu
  unfold iv at hu
  obtain ⟨z, _, rfl⟩ := List.mem_map.1 hu
  rfl
theorem Whole.drew {w : World} {g : Nat} {t : TypeId} {cs : Array Value} (h : Whole w g t cs) : Whole w.drew g t cs := h.drewN 1
theorem news_whole {w : World} {g : Nat} {x : Lay} {t : TypeId} (h : Whole w g t #[.int .i64 x.fo, .int .i64 x.ic, .int .i64 x.wa, .int .i64 x.de, .int .i64 x.dg, .int .i64 x.ha, .int .i64 x.ag]) :
    ∀ j u, (iv (La.lv x))[j]? = some u → w.cell? ((⟨g, 0, none⟩ : Addr).add j) = some u := World.news_of_block (cs := #[.int .i64 x.fo, .int .i64 x.ic, .int .i64 x.wa, .int .i64 x.de, .int .i64 x.dg, .int .i64 x.ha, .int .i64 x.ag]) h

set_option maxHeartbeats 3200000 in
theorem implAddLayer_any (B b cap : Nat) (w : World) (xs : List Lay) (x : Lay) (ho : LOwn B w (.slice (some ⟨b, 0, none⟩) xs.length cap) xs) (hl : xs.length ≤ 1048576) :
    Calls Try.prog 21 #[.slice (some ⟨b, 0, none⟩) xs.length cap, .agg #[.int .i64 x.fo, .int .i64 x.ic, .int .i64 x.wa, .int .i64 x.de, .int .i64 x.dg, .int .i64 x.ha, .int .i64 x.ag]] w (RLC w (La.adC xs x) (La.adR xs x)) := by
  obtain ⟨i0, hi, hz0, hz1, hz2⟩ := info_parts info_layer
  have HO := Lib.hid ho
  have CV := fun W (hv : LSl W (.slice (some ⟨b, 0, none⟩) xs.length cap) xs) => Lib.hid (implValidProfile_any W _ xs hv hl)
  have CX := fun W => Lib.hid (implValidLayer_any x W)
  have CC := fun W ho => Lib.hid (clone_at B b cap W xs ho hl)
  have KB := Lib.hid (boxed_below w x 30)
  have K0 : Hid (∀ w1, Below (boxed w x 30).heap.size (boxed w x 30) w1 → LCells w1 w.heap.size 0 x) := Lib.hid (fun w1 h => boxed_kept (w := w) (w1 := w1) (x := x) (t := 30) h)
  have hbx : boxed w x 30 = w.alloc (.cells #[.int .i64 x.fo, .int .i64 x.ic, .int .i64 x.wa, .int .i64 x.de, .int .i64 x.dg, .int .i64 x.ha, .int .i64 x.ag] 30) := rfl
  have CV0 := CV (boxed w x 30) (HO.out.belowAll KB.out).sl
  rw [hbx] at CV0
  clear ho
  cases h1 : La.okP xs with
  | false =>
    have hr := Lib.hid (La.ad_no (xs := xs) (x := x) (by rw [h1]; rfl))
    rw [h1] at CV0
    clear h1 CV
    go_enter Try.func21, Try.ntmps21
    go_wp2_with fail
    refine CV0.out.mono ?_
    rintro e w1 ⟨rfl, b1⟩
    have B1 := Lib.hid (bt KB.out b1)
    clear b1
    go_wp2_with fail
    go_ret2
    exact RLC.no hr.out B1.out
  | true =>
    cases h2 : La.okL x with
    | false =>
      have hr := Lib.hid (La.ad_no (xs := xs) (x := x) (by rw [h1, h2]; rfl))
      rw [h1] at CV0
      rw [h2] at CX
      clear h1 h2 CV
      go_enter Try.func21, Try.ntmps21
      go_wp2_with fail
      refine CV0.out.mono ?_
      rintro e w1 ⟨rfl, b1⟩
      have B1 := Lib.hid (bt KB.out b1)
      obtain ⟨d0, d1, d2, d3, d4, d5, d6⟩ := (K0.out w1 b1).zero
      clear b1
      go_wp2_with fail
      refine (CX _).out.mono ?_
      rintro e w2 ⟨rfl, b2⟩
      have B2 := Lib.hid (bt B1.out b2)
      clear b2
      go_wp2_with fail
      go_ret2
      exact RLC.no hr.out B2.out
    | true =>
      have hok : (La.okP xs && La.okL x) = true := by rw [h1, h2]; rfl
      rw [h1] at CV0
      rw [h2] at CX
      clear h1 h2 CV
      by_cases h3 : xs.length = 16
      · have hr := Lib.hid (La.ad_full hok h3)
        have h16 : ((xs.length : Int) == 16) = true := by rw [h3]; rfl
        clear hok h3
        go_enter Try.func21, Try.ntmps21
        go_wp2_with fail
        refine CV0.out.mono ?_
        rintro e w1 ⟨rfl, b1⟩
        have B1 := Lib.hid (bt KB.out b1)
        obtain ⟨d0, d1, d2, d3, d4, d5, d6⟩ := (K0.out w1 b1).zero
        clear b1
        go_wp2_with fail
        refine (CX _).out.mono ?_
        rintro e w2 ⟨rfl, b2⟩
        have B2 := Lib.hid (bt B1.out b2)
        clear b2
        go_wp2_with fail
        go_ret2
        exact RLC.no hr.out B2.out
      · have hr := Lib.hid (La.ad_ok hok h3)
        have h16 : ((xs.length : Int) == 16) = false := by rw [beq_eq_false_iff_ne]; omega
        clear hok h3
        go_enter Try.func21, Try.ntmps21
        go_wp2_with fail
        refine CV0.out.mono ?_
        rintro e w1 ⟨rfl, b1⟩
        have B1 := Lib.hid (bt KB.out b1)
        have K1 : Hid (∀ w2, Below w1.heap.size w1 w2 → LCells w2 w.heap.size 0 x) := Lib.hid (fun w2 h => K0.out w2 (bt b1 h))
        obtain ⟨d0, d1, d2, d3, d4, d5, d6⟩ := (K0.out w1 b1).zero
        clear b1
        go_wp2_with fail
        refine (CX _).out.mono ?_
        rintro e w2 ⟨rfl, b2⟩
        have K2 : Hid (∀ w3, Below w2.heap.size w2 w3 → LCells w3 w.heap.size 0 x) := Lib.hid (fun w3 h => K1.out w3 (bt b2 h))
        have B2 := Lib.hid (bt B1.out b2)
        have HO2 := Lib.hid (HO.out.belowAll B2.out)
        have d := (K1.out w2 b2).zero
        clear b2 d0 d1 d2 d3 d4 d5 d6
        obtain ⟨d0, d1, d2, d3, d4, d5, d6⟩ := d
        clear CX CV0 K0 K1 hbx
        have CL : Hid (∀ W, Below w2.heap.size w2 W → Calls Try.prog 66 #[.slice (some ⟨b, 0, none⟩) xs.length cap] W fun e w' => ∃ u, e = .returned u ∧ LOwn w2.heap.size w' u xs ∧ Below w2.heap.size w2 w' ∧ Below W.heap.size W w') := Lib.hid (fun W hW => ((CC W (HO2.out.belowAll hW)).out.mono (by
          rintro e w' ⟨u, rfl, h1, h2⟩
          exact ⟨u, rfl, h1.le hW.size, bt hW h2, h2⟩)))
        clear CC
        go_wp2_with fail
        go_region_held3 (fun w' => w'.cell? ⟨w.heap.size, 0, none⟩ = some (.int .i64 x.fo) ∧ w'.cell? ⟨w.heap.size, 1, none⟩ = some (.int .i64 x.ic) ∧ w'.cell? ⟨w.heap.size, 2, none⟩ = some (.int .i64 x.wa) ∧ w'.cell? ⟨w.heap.size, 3, none⟩ = some (.int .i64 x.de) ∧ w'.cell? ⟨w.heap.size, 4, none⟩ = some (.int .i64 x.dg) ∧ w'.cell? ⟨w.heap.size, 5, none⟩ = some (.int .i64 x.ha) ∧ w'.cell? ⟨w.heap.size, 6, none⟩ = some (.int .i64 x.ag)) (go_keep)
          (first
            | (go_at_call 66; refine (CL.out _ (by first | exact below_drew1 _ | exact below_alloc_drew _ _)).mono ?_; rintro e w3 ⟨u, rfl, ho3, b3, b4⟩; obtain ⟨k0, k1, k2, k3, k4, k5, k6⟩ := (K2.out w3 b3).zero)
            | (refine step_append_lies _ (by rfl) _ _ 26 (by rfl) w2.heap.size 30 i0 _ 7 56 Try.underlying26 hi hz0 hz1 hz2 rfl (by decide) u xs.length (iv (La.fl xs)) (by rfl) (by first | exact ho3 | exact ho3.belowAll ((Below.refl _ _).alloc (Nat.le_refl _) _)) _ 1 1 (iv (La.lv x)) (by rfl) (by rfl) (by first | exact news_whole (Whole.new _ _ _) | exact news_whole (Whole.all (Whole.drew (Whole.new _ _ _)) b4)) (one_lay x) (by decide) (by unfold maxLen; omega) (by omega) (by first | exact b3.size | exact Nat.le_trans b3.size (by simp)) _ rfl ?_; intro g cap4 w4 hown hgrow hat hlt; have b5 : Below w2.heap.size w2 w4 := (by first | exact b3.grown hgrow b3.size (fun k hk => (World.ownsRow.lt ho3 k hk).1) | exact (b3.alloc b3.size _).grown hgrow (Nat.le_trans b3.size (by simp)) (fun k hk => (World.ownsRow.lt ho3 k hk).1)); obtain ⟨q0, q1, q2, q3, q4, q5, q6⟩ := (K2.out w4 b5).zero))
        all_goals (
          have B5 := Lib.hid (bt B2.out b5)
          have HW : Hid (LOwn w.heap.size w4 (.slice (some ⟨g, 0, none⟩) (xs.length + 1) cap4) (xs ++ [x])) := Lib.hid (LOwn.le (B := w2.heap.size) (by unfold LOwn; rw [La.fl_app1, iv_append, List.length_append]; exact hown) B2.out.size)
          clear b5 hown hgrow hat hlt
          go_wp2
          go_ret2
          exact RLC.yes hr.out HW.out B5.out)
end Go.Proofs.Ytdfmgdmekflmeaa

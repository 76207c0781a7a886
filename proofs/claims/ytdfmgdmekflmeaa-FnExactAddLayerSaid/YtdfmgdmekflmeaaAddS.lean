/-
  AddLayer of chapter 3, by the model. No condition of its own.
-/
import Derived.Test.YtdfmgdmekflmeaaAddL
import Derived.Test.YtdfmgdmekflmeaaLayM
namespace Go.Proofs.Ytdfmgdmekflmeaa
open Go.RowKit Go.Deep
set_option linter.unusedVariables false
set_option maxRecDepth 100000

/-- 'append' to a row of the call's own, at a step of a region that draws its order: also of nothing at all -/
theorem step_append_own {P : Program} {w : World} {ops : Array Oper} {o : Oper} {a : Act} {K : Act → World → Prop} {Q : Exit → Act → World → Prop} {E : Prop} (hgd : o.guard = none) (s x : Operand) (t : TypeId)
    (ho : o.op = .call { callee := .builtin .append, args := #[s, x], argTypes := #[t, t] })
    (base : Nat) (e : TypeId) (i : TypeInfo) (z : Value) (size bytes : Nat) (ht : P.underlying t = some (.slice e)) (hi : P.info? e = some i) (hz : i.zero = some z)
    (hsize : i.size = size) (hby : i.bytes = bytes) (hzs : z.cells.size = size) (hsz : 0 < size)
    (v : Value) (n : Nat) (xs : List Value) (hs : a.eval s = v) (hown : w.ownsRow base e size v n xs)
    (ad : Addr) (m c : Nat) (news : List Value) (hx : a.eval x = .slice (some ad) m c) (hl : news.length = m * size) (hnews : ∀ j u, news[j]? = some u → w.cell? (ad.add j) = some u) (h1 : ∀ u ∈ news, u.oneCell' = true)
    (h63 : n + m ≤ maxLen) (hbytes : (n + m) * bytes ≤ 140737488355328) (hbase : base ≤ w.heap.size)
    (h : ∀ v' w', w'.ownsRow base e size v' (n + m) (xs ++ news) → w.grownBy w' v.ownBlock → K (a.put o.dst v') w') :
    if Region.wanted o (yielded ops a.tmps) = true then Oper.wp P o a w K Q else E := by
  have hw : Region.wanted o (yielded ops a.tmps) = true := by simp [Region.wanted, hgd]
  rw [if_pos hw]
  exact wp_append_own w s x t ho base e i z size bytes ht hi hz hsize hby hzs hsz v n xs hs hown ad m c news hx hl hnews h1 h63 hbytes hbase (fun v' w' a b _ => h v' w' a b)

theorem below_ad (w : World) (o : Obj) : Below w.heap.size w (w.alloc o).drew := bt ((Below.refl _ _).alloc (Nat.le_refl _) o) (below_drewW _ 1)
theorem below_ada (w : World) (o o' : Obj) : Below w.heap.size w ((w.alloc o).alloc o').drew := bt ((Below.refl _ _).alloc (Nat.le_refl _) o) (bt ((Below.refl _ _).alloc (Nat.le_refl _) o') (below_drewW _ 1))
theorem own_lit (g j n c : Nat) (h : (Value.slice (some ⟨g, 0, none⟩) n c).ownBlock = some j) : j = g := by simp [Value.ownBlock] at h; omega
theorem ownsRow_drew {B : Nat} {w : World} {e : TypeId} {size n : Nat} {v : Value} {xs : List Value} (h : w.ownsRow B e size v n xs) : w.drew.ownsRow B e size v n xs := own_belowAll h (below_drewW w 1)
theorem lit_a (w : World) (e : TypeId) (size : Nat) : (w.alloc (.cells #[] e)).drew.ownsRow w.heap.size e size (.slice (some ⟨w.heap.size, 0, none⟩) 0 0) 0 [] := ownsRow_drew (World.ownsRow_lit w #[] 0 (Nat.le_refl _) (by decide) (by simp))
theorem lit_b (w : World) (e : TypeId) (size : Nat) (o : Obj) : ((w.alloc (.cells #[] e)).alloc o).drew.ownsRow w.heap.size e size (.slice (some ⟨w.heap.size, 0, none⟩) 0 0) 0 [] := ownsRow_drew ((World.ownsRow_lit w #[] 0 (Nat.le_refl _) (by decide) (by simp)).alloc o)
theorem lit_c (w : World) (e : TypeId) (size : Nat) (o : Obj) : ((w.alloc o).alloc (.cells #[] e)).drew.ownsRow w.heap.size e size (.slice (some ⟨w.heap.size + 1, 0, none⟩) 0 0) 0 [] := by
  have h := World.ownsRow_lit (base := w.heap.size) (e := e) (size := size) (w.alloc o) #[] 0 (by simp) (by decide) (by simp)
  have := ownsRow_drew h
  simpa using this
theorem whole_b (w : World) (o : Obj) (cs : Array Value) (t : TypeId) : Whole ((w.alloc o).alloc (.cells cs t)).drew (w.heap.size + 1) t cs := by
  have h := Whole.drew (Whole.new (w.alloc o) t cs)
  simpa using h
theorem whole_c (w : World) (o : Obj) (cs : Array Value) (t : TypeId) : Whole ((w.alloc (.cells cs t)).alloc o).drew w.heap.size t cs := Whole.drew (Whole.alloc (Whole.new w t cs) o)
set_option maxHeartbeats 3200000 in
theorem specAddLayer_any (B b cap : Nat) (w : World) (xs : List Lay) (x : Lay) (ho : LOwn B w (.slice (some ⟨b, 0, none⟩) xs.length cap) xs) (hl : xs.length ≤ 1048576) :
    Calls Try.prog 18 #[.slice (some ⟨b, 0, none⟩) xs.length cap, .agg #[.int .i64 x.fo, .int .i64 x.ic, .int .i64 x.wa, .int .i64 x.de, .int .i64 x.dg, .int .i64 x.ha, .int .i64 x.ag]] w (RLC w (La.adC xs x) (La.adR xs x)) := by
  obtain ⟨i0, hi, hz0, hz1, hz2⟩ := info_parts info_layer
  have HO := Lib.hid ho
  have CV := fun W (hv : LSl W (.slice (some ⟨b, 0, none⟩) xs.length cap) xs) => Lib.hid (l03Ok_any W _ xs hv hl)
  have CX := fun W (h : LCells W w.heap.size 0 x) => Lib.hid (l03One_any x w.heap.size 0 W h)
  have KB := Lib.hid (boxed_below w x 30)
  have K0 : Hid (∀ w1, Below (boxed w x 30).heap.size (boxed w x 30) w1 → LCells w1 w.heap.size 0 x) := Lib.hid (fun w1 h => boxed_kept (w := w) (w1 := w1) (x := x) (t := 30) h)
  have hbx : boxed w x 30 = w.alloc (.cells #[.int .i64 x.fo, .int .i64 x.ic, .int .i64 x.wa, .int .i64 x.de, .int .i64 x.dg, .int .i64 x.ha, .int .i64 x.ag] 30) := rfl
  have CV0 := CV (boxed w x 30) (HO.out.belowAll KB.out).sl
  rw [hbx] at CV0
  clear ho
  cases h1 : La.okP xs with
  | false =>
    have hr := Lib.hid (La.ad_no (xs := xs) (x := x) (by rw [h1]; rfl))
    rw [h1] at CV0
    clear h1 CV
    go_enter Try.func18, Try.ntmps18
    go_wp2_with fail
    refine CV0.out.mono ?_
    rintro e w1 ⟨rfl, z1⟩
    have b1 : Below (boxed w x 30).heap.size (boxed w x 30) w1 := by rw [← z1]; exact Below.refl _ _
    clear z1
    have KX := Lib.hid (K0.out w1 b1)
    have B1 := Lib.hid (bt KB.out b1)
    clear b1
    go_wp2_with fail
    go_ret2
    exact RLC.no hr.out B1.out
  | true =>
    cases h2 : La.okL x with
    | false =>
      have hr := Lib.hid (La.ad_no (xs := xs) (x := x) (by rw [h1, h2]; rfl))
      rw [h1] at CV0
      rw [h2] at CX
      clear h1 h2 CV
      go_enter Try.func18, Try.ntmps18
      go_wp2_with fail
      refine CV0.out.mono ?_
      rintro e w1 ⟨rfl, z1⟩
      have b1 : Below (boxed w x 30).heap.size (boxed w x 30) w1 := by rw [← z1]; exact Below.refl _ _
      clear z1
      have KX := Lib.hid (K0.out w1 b1)
      have B1 := Lib.hid (bt KB.out b1)
      obtain ⟨d0, d1, d2, d3, d4, d5, d6⟩ := (K0.out w1 b1).zero
      clear b1
      go_wp2_with fail
      refine (CX w1 KX.out).out.mono ?_
      rintro e w2 ⟨rfl, z2⟩
      have b2 : Below w1.heap.size w1 w2 := by rw [← z2]; exact Below.refl _ _
      clear z2
      have B2 := Lib.hid (bt B1.out b2)
      clear b2
      go_wp2_with fail
      go_ret2
      exact RLC.no hr.out B2.out
    | true =>
      have hok : (La.okP xs && La.okL x) = true := by rw [h1, h2]; rfl
      rw [h1] at CV0
      rw [h2] at CX
      clear h1 h2 CV
      by_cases h3 : xs.length = 16
      · have hr := Lib.hid (La.ad_full hok h3)
        have h16 : ((xs.length : Int) == 16) = true := by rw [h3]; rfl
        clear hok h3
        go_enter Try.func18, Try.ntmps18
        go_wp2_with fail
        refine CV0.out.mono ?_
        rintro e w1 ⟨rfl, z1⟩
        have b1 : Below (boxed w x 30).heap.size (boxed w x 30) w1 := by rw [← z1]; exact Below.refl _ _
        clear z1
        have KX := Lib.hid (K0.out w1 b1)
        have B1 := Lib.hid (bt KB.out b1)
        obtain ⟨d0, d1, d2, d3, d4, d5, d6⟩ := (K0.out w1 b1).zero
        clear b1
        go_wp2_with fail
        refine (CX w1 KX.out).out.mono ?_
        rintro e w2 ⟨rfl, z2⟩
        have b2 : Below w1.heap.size w1 w2 := by rw [← z2]; exact Below.refl _ _
        clear z2
        have B2 := Lib.hid (bt B1.out b2)
        clear b2
        go_wp2_with fail
        go_ret2
        exact RLC.no hr.out B2.out
      · have hr := Lib.hid (La.ad_ok hok h3)
        have h16 : ((xs.length : Int) == 16) = false := by rw [beq_eq_false_iff_ne]; omega
        clear hok h3
        go_enter Try.func18, Try.ntmps18
        go_wp2_with fail
        refine CV0.out.mono ?_
        rintro e w1 ⟨rfl, z1⟩
        have b1 : Below (boxed w x 30).heap.size (boxed w x 30) w1 := by rw [← z1]; exact Below.refl _ _
        clear z1
        have KX := Lib.hid (K0.out w1 b1)
        have B1 := Lib.hid (bt KB.out b1)
        have K1 : Hid (∀ w2, Below w1.heap.size w1 w2 → LCells w2 w.heap.size 0 x) := Lib.hid (fun w2 h => K0.out w2 (bt b1 h))
        obtain ⟨d0, d1, d2, d3, d4, d5, d6⟩ := (K0.out w1 b1).zero
        clear b1
        go_wp2_with fail
        refine (CX w1 KX.out).out.mono ?_
        rintro e w2 ⟨rfl, z2⟩
        have b2 : Below w1.heap.size w1 w2 := by rw [← z2]; exact Below.refl _ _
        clear z2
        have K2 : Hid (∀ w3, Below w2.heap.size w2 w3 → LCells w3 w.heap.size 0 x) := Lib.hid (fun w3 h => K1.out w3 (bt b2 h))
        have B2 := Lib.hid (bt B1.out b2)
        have HO2 := Lib.hid (HO.out.belowAll B2.out)
        have d := (K1.out w2 b2).zero
        clear b2 d0 d1 d2 d3 d4 d5 d6
        obtain ⟨d0, d1, d2, d3, d4, d5, d6⟩ := d
        clear CX CV0 K0 K1 hbx
        have SRC : Hid (∀ W, Below w2.heap.size w2 W → ∀ j u, (iv (La.fl xs))[j]? = some u → W.cell? ((⟨b, 0, none⟩ : Addr).add j) = some u) := Lib.hid (fun W hW j u hj => World.ownsRow.cells (HO2.out.belowAll hW) (g := b) rfl j u hj)
        have HL : Hid ((iv (La.fl xs)).length = xs.length * 7) := Lib.hid (by rw [iv_length, La.fl_length, Nat.mul_comm])
        have HONE : Hid (∀ u ∈ iv (La.fl xs), u.oneCell' = true) := Lib.hid (by
          intro u hu
          unfold iv at hu
          obtain ⟨z, _, rfl⟩ := List.mem_map.1 hu
          rfl)
        go_wp2_with fail
        go_region_held3 (fun w' => w'.cell? ⟨w.heap.size, 0, none⟩ = some (.int .i64 x.fo) ∧ w'.cell? ⟨w.heap.size, 1, none⟩ = some (.int .i64 x.ic) ∧ w'.cell? ⟨w.heap.size, 2, none⟩ = some (.int .i64 x.wa) ∧ w'.cell? ⟨w.heap.size, 3, none⟩ = some (.int .i64 x.de) ∧ w'.cell? ⟨w.heap.size, 4, none⟩ = some (.int .i64 x.dg) ∧ w'.cell? ⟨w.heap.size, 5, none⟩ = some (.int .i64 x.ha) ∧ w'.cell? ⟨w.heap.size, 6, none⟩ = some (.int .i64 x.ag)) (go_keep)
          (first
            | (refine step_append_lies _ (by rfl) _ _ 26 (by rfl) w2.heap.size 30 i0 _ 7 56 Try.underlying26 hi hz0 hz1 hz2 rfl (by decide) v4 (0 + xs.length) ([] ++ iv (La.fl xs)) (by rfl) (by first | exact own4 | exact own4.alloc _) _ 1 1 (iv (La.lv x)) (by rfl) (by rfl) (by first | exact news_whole xw | exact news_whole (Whole.new _ _ _)) (one_lay x) (by decide) (by unfold maxLen; omega) (by omega) (by first | exact b4.size | exact Nat.le_trans b4.size (by simp)) _ rfl ?_; intro g cap4 w5 hown hgrow hat hlt; have b5 : Below w2.heap.size w2 w5 := (by first | exact b4.grown hgrow b4.size (fun k hk => (World.ownsRow.lt own4 k hk).1) | exact (b4.alloc b4.size _).grown hgrow (Nat.le_trans b4.size (by simp)) (fun k hk => (World.ownsRow.lt own4 k hk).1)); obtain ⟨q0, q1, q2, q3, q4, q5, q6⟩ := (K2.out w5 b5).zero)
            | (refine step_append_own (by rfl) _ _ 26 (by rfl) w2.heap.size 30 i0 _ 7 56 Try.underlying26 hi hz0 hz1 hz2 rfl (by decide) (.slice (some ⟨w2.heap.size, 0, none⟩) 0 0) 0 [] (by rfl) (lit_a w2 _ _) ⟨b, 0, none⟩ xs.length cap (iv (La.fl xs)) (by rfl) HL.out (SRC.out _ (below_ad w2 _)) HONE.out (by unfold maxLen; omega) (by omega) (below_ad w2 _).size ?_; intro v4 w4 own4 grow4; have b4 : Below w2.heap.size w2 w4 := (below_ad w2 _).grown grow4 (below_ad w2 _).size (fun j hj => by have := own_lit _ _ _ _ hj; omega); obtain ⟨k0, k1, k2, k3, k4, k5, k6⟩ := (K2.out w4 b4).zero)
            | (refine step_append_own (by rfl) _ _ 26 (by rfl) w2.heap.size 30 i0 _ 7 56 Try.underlying26 hi hz0 hz1 hz2 rfl (by decide) (.slice (some ⟨w2.heap.size, 0, none⟩) 0 0) 0 [] (by rfl) (lit_b w2 _ _ _) ⟨b, 0, none⟩ xs.length cap (iv (La.fl xs)) (by rfl) HL.out (SRC.out _ (below_ada w2 _ _)) HONE.out (by unfold maxLen; omega) (by omega) (below_ada w2 _ _).size ?_; intro v4 w4 own4 grow4; have b4 : Below w2.heap.size w2 w4 := (below_ada w2 _ _).grown grow4 (below_ada w2 _ _).size (fun j hj => by have := own_lit _ _ _ _ hj; omega); obtain ⟨k0, k1, k2, k3, k4, k5, k6⟩ := (K2.out w4 b4).zero; have xw := Whole.grow (whole_b w2 _ _ _) grow4 (fun j hj => by have := own_lit _ _ _ _ hj; omega))
            | (refine step_append_own (by rfl) _ _ 26 (by rfl) w2.heap.size 30 i0 _ 7 56 Try.underlying26 hi hz0 hz1 hz2 rfl (by decide) (.slice (some ⟨w2.heap.size + 1, 0, none⟩) 0 0) 0 [] (by rfl) (lit_c w2 _ _ _) ⟨b, 0, none⟩ xs.length cap (iv (La.fl xs)) (by rfl) HL.out (SRC.out _ (below_ada w2 _ _)) HONE.out (by unfold maxLen; omega) (by omega) (below_ada w2 _ _).size ?_; intro v4 w4 own4 grow4; have b4 : Below w2.heap.size w2 w4 := (below_ada w2 _ _).grown grow4 (below_ada w2 _ _).size (fun j hj => by have := own_lit _ _ _ _ hj; omega); obtain ⟨k0, k1, k2, k3, k4, k5, k6⟩ := (K2.out w4 b4).zero; have xw := Whole.grow (whole_c w2 _ _ _) grow4 (fun j hj => by have := own_lit _ _ _ _ hj; omega)))
        all_goals (
          have B5 := Lib.hid (bt B2.out b5)
          rw [List.nil_append, Nat.zero_add] at hown
          have HW : Hid (LOwn w.heap.size w5 (.slice (some ⟨g, 0, none⟩) (xs.length + 1) cap4) (xs ++ [x])) := Lib.hid (LOwn.le (B := w2.heap.size) (by unfold LOwn; rw [La.fl_app1, iv_append, List.length_append]; exact hown) B2.out.size)
          clear b5 hown hgrow hat hlt
          go_wp2
          go_ret2
          exact RLC.yes hr.out HW.out B5.out)
theorem La.adR_len (xs : List Lay) (x : Lay) : (La.adR xs x).length ≤ 1048576 := by
  unfold La.adR
  split
  · rename_i h
    rw [Bool.and_eq_true] at h
    have := ((La.okP_iff xs).1 h.1).1
    split <;> simp <;> omega
  · simp
theorem LOwn.far {B x : Nat} {w w1 : World} {v : Value} {xs : List Lay} (h : LOwn B w v xs) (hg : w.grownBy w1 (some x)) (hx : x < B) : LOwn B w1 v xs := own_far h hg hx
end Go.Proofs.Ytdfmgdmekflmeaa

/-
  An asset read back out of its text (chapter 15), by the model and by the program. The conditions: no text is longer than 2^20; of the program's side, the library's listed variables hold what its text lays.
-/
import Derived.Test.YtaldmdammipfjaaDoorCutL
import Derived.Test.YtaldmdammipfjaaDoorExA
namespace Go.Proofs.YtaldmdammipfjaaDoor
open Go.RowKit Go.ChangeShapes Go.WideShapes Go.Deep
set_option linter.unusedVariables false
set_option maxRecDepth 100000
namespace Ex
def az : Ast := ⟨[], [], 0⟩
def a4 (p : List UInt8) (o : Option Int) (zs : List Int) : Option Ast := match o with
  | some n => if ok1 64 ⟨p, zs, n⟩ = true then some ⟨p, zs, n⟩ else none
  | none => none
def a3 (p q r : List UInt8) : Option Ast := a4 p (Nu.rd q) ((rl r).getD [])
/-- the asset with a text -/
def ras (l : List UInt8) : Option Ast := match spl 32 l with
  | [p, q, r] => a3 p q r
  | _ => none
theorem a4_none (p : List UInt8) (zs : List Int) : a4 p none zs = none := rfl
theorem a4_nil (p : List UInt8) (o : Option Int) : a4 p o [] = none := by
  cases o with
  | none => rfl
  | some n => simp [a4, ok1]
theorem a4_bad {p : List UInt8} {n : Int} {zs : List Int} (h : ok1 64 ⟨p, zs, n⟩ = false) : a4 p (some n) zs = none := by simp [a4, h]
theorem a4_ok {p : List UInt8} {n : Int} {zs : List Int} (h : ok1 64 ⟨p, zs, n⟩ = true) : a4 p (some n) zs = some ⟨p, zs, n⟩ := by simp [a4, h]
theorem a4_len (p : List UInt8) (o : Option Int) (zs : List Int) (h : zs.length ≤ 1048576) : ((a4 p o zs).getD az).ce.length ≤ 1048576 := by
  cases o with
  | none => simp [a4, az]
  | some n =>
    unfold a4
    simp only []
    split
    · exact h
    · simp [az]
theorem a3_no (p q r : List UInt8) (h : rl r = none) : a3 p q r = none := by unfold a3; rw [h]; exact a4_nil _ _
theorem ras_len (l : List UInt8) : ((ras l).getD az).ce.length ≤ 1048576 := by
  unfold ras
  split
  · rename_i p q r _
    exact a4_len _ _ _ (Nat.le_trans (rl_len r) (by omega))
  · simp [az]
theorem ras_three {l p q r : List UInt8} (h : spl 32 l = [p, q, r]) : ras l = a3 p q r := by unfold ras; rw [h]
theorem ras_not {l : List UInt8} (h : (spl 32 l).length ≠ 3) : ras l = none := by
  unfold ras
  split
  · rename_i p q r he
    rw [he] at h; simp at h
  · rfl
theorem ras_cut (l : List UInt8) : ras l = a3 (Lib.cut l [32]).1 (Lib.cut (Lib.cut l [32]).2.1 [32]).1 (Lib.cut (Lib.cut l [32]).2.1 [32]).2.1 := by
  rcases idx_cases 32 l with ⟨h, _⟩ | ⟨p, r, rfl, hp, _⟩
  · rw [cut_miss h]
    simp only []
    rw [cut_miss (by simp : (32 : UInt8) ∉ [])]
    simp only []
    rw [a3_no _ _ _ rl_nil, ras_not (by rw [spl_miss 32 l h]; simp)]
  · rw [cut_hit hp]
    simp only []
    have hs := spl_hit 32 r p hp
    rcases idx_cases 32 r with ⟨h, _⟩ | ⟨q, t, rfl, hq, _⟩
    · rw [cut_miss h]
      simp only []
      rw [a3_no _ _ _ rl_nil, ras_not (by rw [hs, spl_miss 32 r h]; simp)]
    · rw [cut_hit hq]
      simp only []
      rw [spl_hit 32 t q hq] at hs
      by_cases ht : (32 : UInt8) ∈ t
      · rw [a3_no _ _ _ (rl_odd ht (by decide) (by decide) (by decide))]
        refine ras_not ?_
        rw [hs]
        rcases idx_cases 32 t with ⟨h, _⟩ | ⟨u, v, rfl, hu, _⟩
        · exact absurd ht h
        · rw [spl_hit 32 v u hu]
          have := List.length_pos_iff.2 (spl_ne 32 v)
          simp only [List.length_cons]
          omega
      · rw [spl_miss 32 t ht] at hs
        exact ras_three hs
theorem three {L : List (List UInt8)} (h : L.length = 3) : ∃ p q r, L = [p, q, r] := by
  match L, h with
  | [p, q, r], _ => exact ⟨p, q, r, rfl⟩
end Ex
/-- what reading an asset leaves -/
def RRa (w : World) (o : Option Ast) (e : Ending) (w' : World) : Prop :=
  ∃ u, e = .returned (.tuple #[.agg #[.string ⟨(o.getD Ex.az).id.toArray⟩, u, .int .i64 (o.getD Ex.az).wo], .bool o.isSome]) ∧ Own w.heap.size w' u (o.getD Ex.az).ce ∧ Below w.heap.size w w'
theorem RRa.no {w w' : World} {o : Option Ast} (ho : o = none) (hb : Below w.heap.size w w') : RRa w o (.returned (.tuple #[.agg #[.string ⟨#[]⟩, .slice none 0 0, .int .i64 0], .bool false])) w' := by
  subst ho; exact ⟨_, rfl, World.ownsRow_nil _ _ _ _, hb⟩
theorem RRa.yes {w w' : World} {o : Option Ast} {p : List UInt8} {zs : List Int} {n : Int} {u : Value} (ho : o = some ⟨p, zs, n⟩) (hu : Own w.heap.size w' u zs) (hb : Below w.heap.size w w') : RRa w o (.returned (.tuple #[.agg #[.string ⟨p.toArray⟩, u, .int .i64 n], .bool true])) w' := by
  subst ho; exact ⟨_, rfl, hu, hb⟩
def asv (p : List UInt8) (v : Value) (n : Int) : Array Value := #[.string ⟨p.toArray⟩, v, .int .i64 n]
def setA (w : World) (g : Nat) (p : List UInt8) (v : Value) (n : Int) : World := ((w.setCell ⟨g, 0, none⟩ (.string ⟨p.toArray⟩)).setCell ⟨g, 1, none⟩ v).setCell ⟨g, 2, none⟩ (.int .i64 n)
theorem setA_whole {w : World} {g : Nat} {t : TypeId} {q : List UInt8} {u : Value} {m : Int} (h : Whole w g t (asv q u m)) (p : List UInt8) (v : Value) (n : Int) : Whole (setA w g p v n) g t (asv p v n) := by
  have := ((h.put 0 (.string ⟨p.toArray⟩)).put 1 v).put 2 (.int .i64 n)
  simpa [setA, asv] using this
theorem setA_below {B : Nat} {w0 w : World} {g : Nat} (h : Below B w0 w) (hg : B ≤ g) (p : List UInt8) (v : Value) (n : Int) : Below B w0 (setA w g p v n) :=
  ((h.setCell (p := ⟨g, 0, none⟩) hg _).setCell (p := ⟨g, 1, none⟩) hg _).setCell (p := ⟨g, 2, none⟩) hg _
theorem setA_only (w : World) (g : Nat) (p : List UInt8) (v : Value) (n : Int) : w.grownBy (setA w g p v n) (some g) := by
  have h1 := only_setCell (a := w) (w := w) (g := g) (p := ⟨g, 0, none⟩) (World.grownBy.refl _ _) rfl (.string ⟨p.toArray⟩)
  have h2 := only_setCell (p := ⟨g, 1, none⟩) h1 rfl v
  exact only_setCell (p := ⟨g, 2, none⟩) h2 rfl (.int .i64 n)
theorem asv_three {w : World} {g : Nat} {t : TypeId} {p : List UInt8} {v : Value} {n : Int} (h : Whole w g t (asv p v n)) : (w.cell? ⟨g, 0, none⟩ = some (.string ⟨p.toArray⟩) ∧ w.cell? ⟨g, 1, none⟩ = some v ∧ w.cell? ⟨g, 2, none⟩ = some (.int .i64 n)) ∧
    (w.frozen? ⟨g, 0, none⟩ = false ∧ w.frozen? ⟨g, 1, none⟩ = false ∧ w.frozen? ⟨g, 2, none⟩ = false) :=
  ⟨⟨h.at_ 0, h.at_ 1, h.at_ 2⟩, h.free 0, h.free 1, h.free 2⟩
set_option maxHeartbeats 12800000 in
theorem specReadAsset_any (s : ByteArray) (w : World) (hs : s.size ≤ 1048576) :
    Calls Tryd.prog 29 #[.string s] w (RRa w (Ex.ras s.data.toList)) := by
  have HB := Lib.hid (boxAst_below w Ex.az (.slice none 0 0) 48)
  have HK : Hid (∀ w1, Below (boxAst w Ex.az (.slice none 0 0) 48).heap.size (boxAst w Ex.az (.slice none 0 0) 48) w1 → Whole w1 w.heap.size 48 (asv [] (.slice none 0 0) 0)) := Lib.hid (fun w1 h => (Whole.new w _ (asv [] (.slice none 0 0) 0)).all h)
  have C := Lib.hid (l01Split_any s 32 (boxAst w Ex.az (.slice none 0 0) 48) hs)
  have hpl := spl_part_len 32 s.data.toList
  have hsl : s.data.toList.length = s.size := by simp
  rw [hsl] at hpl
  have hpos := List.length_pos_iff.2 (spl_ne 32 s.data.toList)
  unfold boxAst Ex.az at C HB HK
  by_cases h3 : (spl 32 s.data.toList).length = 3
  · obtain ⟨p, q, r, hP⟩ := Ex.three h3
    have hrt := Ex.ras_three hP
    rw [hP] at C hpl hpos
    have hq1 : q.length ≤ s.size := hpl q (by simp)
    have hr1 : r.length ≤ s.size := hpl r (by simp)
    have hp1 : p.length ≤ 1048576 := Nat.le_trans (hpl p (by simp)) hs
    have CN := Lib.hid (fun W => number_at q (by omega) W)
    have CR := Lib.hid (fun W => specReadList_any ⟨r.toArray⟩ W (by rw [sz_mk]; omega))
    have hrr : (⟨r.toArray⟩ : ByteArray).data.toList = r := by simp
    rw [hrr] at CR
    have hzl : ((rl r).getD []).length ≤ 1048576 := Nat.le_trans (rl_len r) (by omega)
    have hsome : Hid ((rl r).isSome = false → (rl r).getD [] = []) := Lib.hid (by cases rl r <;> simp)
    unfold RL at CR
    rw [hrt]
    unfold Ex.a3
    clear hrr hq1 hr1 hpl hsl hP hrt h3
    generalize (rl r).isSome = y at *
    generalize (rl r).getD [] = zs at *
    generalize Nu.rd q = o at *
    cases o with
    | none =>
      have hr := Lib.hid (Ex.a4_none p zs)
      simp only [Option.getD_none, Option.isSome_none] at CN
      clear hsome
      go_enter Tryd.func29, Tryd.ntmps29
      go_wp2_with fail
      refine C.out.mono ?_
      rintro e w1 ⟨v0, rfl, hst, b1⟩
      obtain ⟨gw, cap, rfl, hgw, hcw⟩ := strs_form hst hpos
      have k0 := Lib.hid (hcw 0 _ rfl)
      have k1 : w1.cell? ⟨gw, 1, none⟩ = some (.string ⟨q.toArray⟩) := hcw 1 _ rfl
      have k2 : w1.cell? ⟨gw, 2, none⟩ = some (.string ⟨r.toArray⟩) := hcw 2 _ rfl
      have B1 := Lib.hid (bt HB.out b1)
      have K1 := Lib.hid (HK.out w1 b1)
      clear b1 hst hcw
      go_wp2_with fail
      refine (CN.out _).mono ?_
      rintro e w2 ⟨rfl, rfl⟩
      go_wp2_with fail
      refine (CR.out _).mono ?_
      rintro e w2 ⟨u, rfl, ho, b2⟩
      have K2 := Lib.hid (K1.out.all b2)
      have B2 := Lib.hid (bt B1.out b2)
      have e0 : w2.cell? ⟨gw, 0, none⟩ = some (.string ⟨p.toArray⟩) := (b2.cell (p := ⟨gw, 0, none⟩) hgw).trans k0.out
      obtain ⟨ua, ucap, rfl⟩ := (Own.sl ho).form
      clear b2 ho k1 k2
      have RW0 := Lib.hid (setA_whole K2.out [] (.slice none 0 0) 0)
      have RB0 := Lib.hid (setA_below B2.out (Nat.le_refl _) [] (.slice none 0 0) 0)
      have BX := Lib.hid (boxAst_below (setA w2 w.heap.size [] (.slice none 0 0) 0) ⟨p, zs, 0⟩ (.slice ua zs.length ucap) 48)
      have RW := Lib.hid (RW0.out.all BX.out)
      have RB := Lib.hid (bt RB0.out BX.out)
      obtain ⟨⟨z0, z1, z2⟩, f0, f1, f2⟩ := asv_three K2.out
      have hlt := K2.out.lt
      have hne : w2.heap.size ≠ w.heap.size := Nat.ne_of_gt hlt
      go_wp2_with fail
      change bodyPost _ _ _ _ _ (boxAst (setA w2 w.heap.size [] (.slice none 0 0) 0) ⟨p, zs, 0⟩ (.slice ua zs.length ucap) 48)
      generalize boxAst (setA w2 w.heap.size [] (.slice none 0 0) 0) ⟨p, zs, 0⟩ (.slice ua zs.length ucap) 48 = WZ at *
      obtain ⟨⟨d0, d1, d2⟩, -⟩ := asv_three RW.out
      exact bodyPost_ret (v := .tuple #[.agg #[.string ⟨#[]⟩, .slice none 0 0, .int .i64 0], .bool false]) (by simp [results, Tryd.results29, go_sem, d0, d1, d2]) rfl (RRa.no hr.out RB.out)
    | some n =>
      simp only [Option.getD_some, Option.isSome_some] at CN
      cases y with
      | false =>
        have hz0 := hsome.out rfl
        subst hz0
        have hr := Lib.hid (Ex.a4_nil p (some n))
        clear hsome
        go_enter Tryd.func29, Tryd.ntmps29
        go_wp2_with fail
        refine C.out.mono ?_
        rintro e w1 ⟨v0, rfl, hst, b1⟩
        obtain ⟨gw, cap, rfl, hgw, hcw⟩ := strs_form hst hpos
        have k0 := Lib.hid (hcw 0 _ rfl)
        have k1 : w1.cell? ⟨gw, 1, none⟩ = some (.string ⟨q.toArray⟩) := hcw 1 _ rfl
        have k2 : w1.cell? ⟨gw, 2, none⟩ = some (.string ⟨r.toArray⟩) := hcw 2 _ rfl
        have B1 := Lib.hid (bt HB.out b1)
        have K1 := Lib.hid (HK.out w1 b1)
        clear b1 hst hcw
        go_wp2_with fail
        refine (CN.out _).mono ?_
        rintro e w2 ⟨rfl, rfl⟩
        go_wp2_with fail
        refine (CR.out _).mono ?_
        rintro e w2 ⟨u, rfl, ho, b2⟩
        have K2 := Lib.hid (K1.out.all b2)
        have B2 := Lib.hid (bt B1.out b2)
        have e0 : w2.cell? ⟨gw, 0, none⟩ = some (.string ⟨p.toArray⟩) := (b2.cell (p := ⟨gw, 0, none⟩) hgw).trans k0.out
        obtain ⟨ua, ucap, rfl⟩ := (Own.sl ho).form
        clear b2 ho k1 k2
        have RW0 := Lib.hid (setA_whole K2.out [] (.slice none 0 0) 0)
        have RB0 := Lib.hid (setA_below B2.out (Nat.le_refl _) [] (.slice none 0 0) 0)
        have BX := Lib.hid (boxAst_below (setA w2 w.heap.size [] (.slice none 0 0) 0) ⟨p, [], n⟩ (.slice ua ([] : List Int).length ucap) 48)
        have RW := Lib.hid (RW0.out.all BX.out)
        have RB := Lib.hid (bt RB0.out BX.out)
        obtain ⟨⟨z0, z1, z2⟩, f0, f1, f2⟩ := asv_three K2.out
        have hlt := K2.out.lt
        have hne : w2.heap.size ≠ w.heap.size := Nat.ne_of_gt hlt
        go_wp2_with fail
        change bodyPost _ _ _ _ _ (boxAst (setA w2 w.heap.size [] (.slice none 0 0) 0) ⟨p, [], n⟩ (.slice ua ([] : List Int).length ucap) 48)
        generalize boxAst (setA w2 w.heap.size [] (.slice none 0 0) 0) ⟨p, [], n⟩ (.slice ua ([] : List Int).length ucap) 48 = WZ at *
        obtain ⟨⟨d0, d1, d2⟩, -⟩ := asv_three RW.out
        exact bodyPost_ret (v := .tuple #[.agg #[.string ⟨#[]⟩, .slice none 0 0, .int .i64 0], .bool false]) (by simp [results, Tryd.results29, go_sem, d0, d1, d2]) rfl (RRa.no hr.out RB.out)
      | true =>
        clear hsome
        have hgb := Lib.hid (fun h => Ex.a4_bad (p := p) (n := n) (zs := zs) h)
        have hgo := Lib.hid (fun h => Ex.a4_ok (p := p) (n := n) (zs := zs) h)
        go_enter Tryd.func29, Tryd.ntmps29
        go_wp2_with fail
        refine C.out.mono ?_
        rintro e w1 ⟨v0, rfl, hst, b1⟩
        obtain ⟨gw, cap, rfl, hgw, hcw⟩ := strs_form hst hpos
        have k0 := Lib.hid (hcw 0 _ rfl)
        have k1 : w1.cell? ⟨gw, 1, none⟩ = some (.string ⟨q.toArray⟩) := hcw 1 _ rfl
        have k2 : w1.cell? ⟨gw, 2, none⟩ = some (.string ⟨r.toArray⟩) := hcw 2 _ rfl
        have B1 := Lib.hid (bt HB.out b1)
        have K1 := Lib.hid (HK.out w1 b1)
        clear b1 hst hcw
        go_wp2_with fail
        refine (CN.out _).mono ?_
        rintro e w2 ⟨rfl, rfl⟩
        go_wp2_with fail
        refine (CR.out _).mono ?_
        rintro e w2 ⟨u, rfl, ho, b2⟩
        have K2 := Lib.hid (K1.out.all b2)
        have B2 := Lib.hid (bt B1.out b2)
        have e0 : w2.cell? ⟨gw, 0, none⟩ = some (.string ⟨p.toArray⟩) := (b2.cell (p := ⟨gw, 0, none⟩) hgw).trans k0.out
        have OV := Lib.hid ho
        obtain ⟨ua, ucap, rfl⟩ := (Own.sl ho).form
        have hgX := Lib.hid (show w.heap.size < w2.heap.size from K2.out.lt)
        have hle8 := Lib.hid (show w.heap.size < w1.heap.size from K1.out.lt)
        have hgw2 : gw < w2.heap.size := Nat.lt_of_lt_of_le hgw b2.size
        clear b2 ho k1 k2
        have X4 := Lib.hid (Whole.new w2 48 (asv p (.slice ua zs.length ucap) n))
        have BX := Lib.hid (boxAst_below w2 ⟨p, zs, n⟩ (.slice ua zs.length ucap) 48)
        have KX := Lib.hid (K2.out.all BX.out)
        have B4 := Lib.hid (bt B2.out BX.out)
        have O4 := Lib.hid (Own.belowAll OV.out BX.out)
        have HW : Hid (AsCells (boxAst w2 ⟨p, zs, n⟩ (.slice ua zs.length ucap) 48) w2.heap.size 0 ⟨p, zs, n⟩ (.slice ua zs.length ucap)) := Lib.hid ⟨X4.out.at_ 0, X4.out.at_ 1, X4.out.at_ 2, Own.sl O4.out⟩
        have CO := Lib.hid (l15One_q 64 ⟨p, zs, n⟩ w2.heap.size 0 _ (boxAst w2 ⟨p, zs, n⟩ (.slice ua zs.length ucap) 48) HW.out ⟨hp1, hzl⟩ (by omega) (by omega))
        have X4' : Hid (Whole (boxAst w2 ⟨p, zs, n⟩ (.slice ua zs.length ucap) 48) w2.heap.size 48 (asv p (.slice ua zs.length ucap) n)) := Lib.hid X4.out
        clear X4 OV
        cases hx : Ex.ok1 64 ⟨p, zs, n⟩ with
        | false =>
          have hr := Lib.hid (hgb.out hx)
          rw [hx] at CO
          clear hx hgb hgo
          go_wp2_with fail
          refine CO.out.mono ?_
          rintro e w7 ⟨rfl, m, rfl⟩
          generalize boxAst w2 ⟨p, zs, n⟩ (.slice ua zs.length ucap) 48 = W4 at *
          have KW := Lib.hid (KX.out.drewN m)
          have B7 := Lib.hid (below_drewN B4.out m)
          generalize W4.drewN m = w7 at *
          have RW := Lib.hid (setA_whole KW.out [] (.slice none 0 0) 0)
          have RB := Lib.hid (setA_below B7.out (Nat.le_refl _) [] (.slice none 0 0) 0)
          obtain ⟨⟨z0, z1, z2⟩, f0, f1, f2⟩ := asv_three KW.out
          go_wp2_with fail
          change bodyPost _ _ _ _ _ (setA w7 w.heap.size [] (.slice none 0 0) 0)
          generalize setA w7 w.heap.size [] (.slice none 0 0) 0 = WZ at *
          obtain ⟨⟨d0, d1, d2⟩, -⟩ := asv_three RW.out
          exact bodyPost_ret (v := .tuple #[.agg #[.string ⟨#[]⟩, .slice none 0 0, .int .i64 0], .bool false]) (by simp [results, Tryd.results29, go_sem, d0, d1, d2]) rfl (RRa.no hr.out RB.out)
        | true =>
          have hr := Lib.hid (hgo.out hx)
          rw [hx] at CO
          clear hx hgb hgo
          go_wp2_with fail
          refine CO.out.mono ?_
          rintro e w7 ⟨rfl, m, rfl⟩
          generalize boxAst w2 ⟨p, zs, n⟩ (.slice ua zs.length ucap) 48 = W4 at *
          have KW := Lib.hid (KX.out.drewN m)
          have X7 := Lib.hid (X4'.out.drewN m)
          have B7 := Lib.hid (below_drewN B4.out m)
          have O7 := Lib.hid (own_belowAll O4.out (below_drewW W4 m))
          generalize W4.drewN m = w7 at *
          generalize w2.heap.size = gX at *
          obtain ⟨⟨x0, x1, x2⟩, -⟩ := asv_three X7.out
          obtain ⟨⟨z0, z1, z2⟩, f0, f1, f2⟩ := asv_three KW.out
          have RW := Lib.hid (setA_whole KW.out p (.slice ua zs.length ucap) n)
          have RB := Lib.hid (setA_below B7.out (Nat.le_refl _) p (.slice ua zs.length ucap) n)
          have O8 := Lib.hid (own_far O7.out (setA_only w7 w.heap.size p (.slice ua zs.length ucap) n) hle8.out)
          go_wp2_with fail
          change bodyPost _ _ _ _ _ (setA w7 w.heap.size p (.slice ua zs.length ucap) n)
          generalize setA w7 w.heap.size p (.slice ua zs.length ucap) n = WZ at *
          obtain ⟨⟨d0, d1, d2⟩, -⟩ := asv_three RW.out
          exact bodyPost_ret (v := .tuple #[.agg #[.string ⟨p.toArray⟩, .slice ua zs.length ucap, .int .i64 n], .bool true]) (by simp [results, Tryd.results29, go_sem, d0, d1, d2]) rfl (RRa.yes hr.out (Go.Joins.ownsRow_le O8.out (Nat.le_of_lt hle8.out)) RB.out)
  · have hr := Lib.hid (Ex.ras_not h3)
    have hz2 : (((spl 32 s.data.toList).length : Int) != 3) = true := by rw [bne_iff_ne]; omega
    clear hpl hsl h3
    generalize spl 32 s.data.toList = P at *
    generalize Ex.ras s.data.toList = o at *
    go_enter Tryd.func29, Tryd.ntmps29
    go_wp2_with fail
    refine C.out.mono ?_
    rintro e w1 ⟨v0, rfl, hst, b1⟩
    obtain ⟨gw, cap, rfl, hgw, hcw⟩ := strs_form hst hpos
    have B1 := Lib.hid (bt HB.out b1)
    have KW := Lib.hid (HK.out w1 b1)
    clear b1 hst hcw hgw
    have RW := Lib.hid (setA_whole KW.out [] (.slice none 0 0) 0)
    have RB := Lib.hid (setA_below B1.out (Nat.le_refl _) [] (.slice none 0 0) 0)
    obtain ⟨⟨z0, z1, z2⟩, f0, f1, f2⟩ := asv_three KW.out
    go_wp2_with fail
    change bodyPost _ _ _ _ _ (setA w1 w.heap.size [] (.slice none 0 0) 0)
    generalize setA w1 w.heap.size [] (.slice none 0 0) 0 = WZ at *
    obtain ⟨⟨d0, d1, d2⟩, -⟩ := asv_three RW.out
    exact bodyPost_ret (v := .tuple #[.agg #[.string ⟨#[]⟩, .slice none 0 0, .int .i64 0], .bool false]) (by simp [results, Tryd.results29, go_sem, d0, d1, d2]) rfl (RRa.no hr.out RB.out)
set_option maxHeartbeats 12800000 in
theorem implReadAsset_any (s : ByteArray) (w : World) (hs : s.size ≤ 1048576) (hpw : Pow w) (her : Errs w) (hml : MaxL w) :
    Calls Tryd.prog 30 #[.string s] w (RRa w (Ex.ras s.data.toList)) := by
  rw [Ex.ras_cut]
  have HB := Lib.hid (boxAst_below w Ex.az (.slice none 0 0) 48)
  have HK : Hid (∀ w1, Below (boxAst w Ex.az (.slice none 0 0) 48).heap.size (boxAst w Ex.az (.slice none 0 0) 48) w1 → Whole w1 w.heap.size 48 (asv [] (.slice none 0 0) 0)) := Lib.hid (fun w1 h => (Whole.new w _ (asv [] (.slice none 0 0) 0)).all h)
  have C := Lib.hid (cut_any s 32 (boxAst w Ex.az (.slice none 0 0) 48) hs (hml.below HB.out))
  have HP := Lib.hid hpw
  have HE := Lib.hid her
  have HM := Lib.hid hml
  have hl := cut_len 32 s.data.toList
  have hsz : s.data.toList.length = s.size := by simp
  rw [hsz] at hl
  generalize (Lib.cut s.data.toList [32]).1 = p at *
  generalize (Lib.cut s.data.toList [32]).2.1 = r at *
  generalize (Lib.cut s.data.toList [32]).2.2 = q0 at *
  have C2 := Lib.hid (fun W (h : Below w.heap.size w W) => cut_any ⟨r.toArray⟩ 32 W (by rw [sz_mk]; omega) (HM.out.below h))
  have hl2 := cut_len 32 r
  have hrr : (⟨r.toArray⟩ : ByteArray).data.toList = r := by simp
  rw [hrr] at C2
  generalize (Lib.cut r [32]).1 = nb at *
  generalize (Lib.cut r [32]).2.1 = cs at *
  generalize (Lib.cut r [32]).2.2 = q1 at *
  have CD := Lib.hid (fun W (h : Below w.heap.size w W) => decimal_at nb (by omega) W (HP.out.below h) (HE.out.below h))
  have CR := Lib.hid (fun W (h : Below w.heap.size w W) => implReadList_any ⟨cs.toArray⟩ W (by rw [sz_mk]; omega) (HP.out.below h) (HE.out.below h) (HM.out.below h))
  have hcc : (⟨cs.toArray⟩ : ByteArray).data.toList = cs := by simp
  rw [hcc] at CR
  have hpl : p.length ≤ 1048576 := by omega
  have hzl : ((rl cs).getD []).length ≤ 1048576 := Nat.le_trans (rl_len cs) (by omega)
  unfold boxAst Ex.az at C HB HK
  unfold RL at CR
  unfold Ex.a3
  clear hpw her hml hsz hrr hcc hl hl2
  generalize (rl cs).isSome = y at *
  generalize (rl cs).getD [] = zs at *
  generalize Nu.rd nb = o at *
  cases o with
  | none =>
    have hr := Lib.hid (Ex.a4_none p zs)
    simp only [Option.getD_none, Option.isSome_none] at CD
    go_enter Tryd.func30, Tryd.ntmps30
    go_wp2_with fail
    refine C.out.mono ?_
    rintro e w1 ⟨rfl, b1⟩
    have B1 := Lib.hid (bt HB.out b1)
    have K1 := Lib.hid (HK.out w1 b1)
    clear b1
    go_wp2_with fail
    refine (C2.out _ B1.out).mono ?_
    rintro e w2 ⟨rfl, b2⟩
    have B2 := Lib.hid (bt B1.out b2)
    have K2 := Lib.hid (K1.out.all b2)
    clear b2
    go_wp2_with fail
    refine (CD.out _ B2.out).mono ?_
    rintro e w3 ⟨rfl, b3⟩
    have B3 := Lib.hid (bt B2.out b3)
    have K3 := Lib.hid (K2.out.all b3)
    clear b3
    have BX := Lib.hid (boxAst_below w3 ⟨p, [], 0⟩ (.slice none 0 0) 48)
    have X4 : Hid (Whole (boxAst w3 ⟨p, [], 0⟩ (.slice none 0 0) 48) w3.heap.size 48 (asv p (.slice none 0 0) 0)) := Lib.hid (Whole.new w3 _ (asv p (.slice none 0 0) 0))
    have B4 := Lib.hid (bt B3.out BX.out)
    have K4 := Lib.hid (K3.out.all BX.out)
    have hgX := Lib.hid (show w.heap.size < w3.heap.size from K3.out.lt)
    go_wp2_with fail
    refine (CR.out (boxAst w3 ⟨p, [], 0⟩ (.slice none 0 0) 48) B4.out).mono ?_
    rintro e w5 ⟨v, rfl, ov, b5⟩
    have hX5 := Lib.hid (X4.out.all b5)
    have K5 := Lib.hid (K4.out.all b5)
    have B5 := Lib.hid (bt B4.out b5)
    obtain ⟨va, vcap, rfl⟩ := (Own.sl ov).form
    clear b5 ov X4 K4
    generalize boxAst w3 ⟨p, [], 0⟩ (.slice none 0 0) 48 = W4 at *
    generalize w3.heap.size = gX at *
    have f1' := hX5.out.free 1
    have x1' : w5.cell? ⟨gX, 1, none⟩ = some (.slice none 0 0) := hX5.out.at_ 1
    have G6 : Hid (w5.grownBy (w5.setCell ⟨gX, 1, none⟩ (.slice va zs.length vcap)) (some gX)) := Lib.hid (only_setCell (World.grownBy.refl _ _) rfl _)
    have KW := Lib.hid (K5.out.far G6.out (Nat.ne_of_lt hgX.out))
    have B6 : Hid (Below w.heap.size w (w5.setCell ⟨gX, 1, none⟩ (.slice va zs.length vcap))) := Lib.hid (B5.out.setCell (p := ⟨gX, 1, none⟩) (Nat.le_of_lt hgX.out) _)
    have RW := Lib.hid (setA_whole KW.out [] (.slice none 0 0) 0)
    have RB := Lib.hid (setA_below B6.out (Nat.le_refl _) [] (.slice none 0 0) 0)
    obtain ⟨⟨z0, z1, z2⟩, f0, f1, f2⟩ := asv_three K5.out
    have hne : gX ≠ w.heap.size := Nat.ne_of_gt hgX.out
    go_wp2_with fail
    change bodyPost _ _ _ _ _ (setA (w5.setCell ⟨gX, 1, none⟩ (.slice va zs.length vcap)) w.heap.size [] (.slice none 0 0) 0)
    generalize setA (w5.setCell ⟨gX, 1, none⟩ (.slice va zs.length vcap)) w.heap.size [] (.slice none 0 0) 0 = WZ at *
    obtain ⟨⟨d0, d1, d2⟩, -⟩ := asv_three RW.out
    exact bodyPost_ret (v := .tuple #[.agg #[.string ⟨#[]⟩, .slice none 0 0, .int .i64 0], .bool false]) (by simp [results, Tryd.results30, go_sem, d0, d1, d2]) rfl (RRa.no hr.out RB.out)
  | some n =>
    simp only [Option.getD_some, Option.isSome_some] at CD
    have hgb := Lib.hid (fun h => Ex.a4_bad (p := p) (n := n) (zs := zs) h)
    have hgo := Lib.hid (fun h => Ex.a4_ok (p := p) (n := n) (zs := zs) h)
    go_enter Tryd.func30, Tryd.ntmps30
    go_wp2_with fail
    refine C.out.mono ?_
    rintro e w1 ⟨rfl, b1⟩
    have B1 := Lib.hid (bt HB.out b1)
    have K1 := Lib.hid (HK.out w1 b1)
    clear b1
    go_wp2_with fail
    refine (C2.out _ B1.out).mono ?_
    rintro e w2 ⟨rfl, b2⟩
    have B2 := Lib.hid (bt B1.out b2)
    have K2 := Lib.hid (K1.out.all b2)
    clear b2
    go_wp2_with fail
    refine (CD.out _ B2.out).mono ?_
    rintro e w3 ⟨rfl, b3⟩
    have B3 := Lib.hid (bt B2.out b3)
    have K3 := Lib.hid (K2.out.all b3)
    clear b3
    have BX := Lib.hid (boxAst_below w3 ⟨p, [], n⟩ (.slice none 0 0) 48)
    have X4 : Hid (Whole (boxAst w3 ⟨p, [], n⟩ (.slice none 0 0) 48) w3.heap.size 48 (asv p (.slice none 0 0) n)) := Lib.hid (Whole.new w3 _ (asv p (.slice none 0 0) n))
    have B4 := Lib.hid (bt B3.out BX.out)
    have K4 := Lib.hid (K3.out.all BX.out)
    have hgX := Lib.hid (show w.heap.size < w3.heap.size from K3.out.lt)
    go_wp2_with fail
    refine (CR.out (boxAst w3 ⟨p, [], n⟩ (.slice none 0 0) 48) B4.out).mono ?_
    rintro e w5 ⟨v, rfl, ov, b5⟩
    have hX5 := Lib.hid (X4.out.all b5)
    have K5 := Lib.hid (K4.out.all b5)
    have B5 := Lib.hid (bt B4.out b5)
    have hlt4 := Lib.hid X4.out.lt
    have OV := Lib.hid ov
    obtain ⟨va, vcap, rfl⟩ := (Own.sl ov).form
    clear b5 ov X4 K4
    generalize boxAst w3 ⟨p, [], n⟩ (.slice none 0 0) 48 = W4 at *
    generalize w3.heap.size = gX at *
    have f1' := hX5.out.free 1
    have x1' : w5.cell? ⟨gX, 1, none⟩ = some (.slice none 0 0) := hX5.out.at_ 1
    have hX6 : Hid (Whole (w5.setCell ⟨gX, 1, none⟩ (.slice va zs.length vcap)) gX 48 (asv p (.slice va zs.length vcap) n)) := Lib.hid (by
      have := hX5.out.put 1 (.slice va zs.length vcap)
      simpa [asv] using this)
    have G6 : Hid (w5.grownBy (w5.setCell ⟨gX, 1, none⟩ (.slice va zs.length vcap)) (some gX)) := Lib.hid (only_setCell (World.grownBy.refl _ _) rfl _)
    have K6 := Lib.hid (K5.out.far G6.out (Nat.ne_of_lt hgX.out))
    have B6 : Hid (Below w.heap.size w (w5.setCell ⟨gX, 1, none⟩ (.slice va zs.length vcap))) := Lib.hid (B5.out.setCell (p := ⟨gX, 1, none⟩) (Nat.le_of_lt hgX.out) _)
    have O6 := Lib.hid (own_far OV.out G6.out hlt4.out)
    obtain ⟨⟨y0, -, y2⟩, -⟩ := asv_three hX5.out
    clear hX5 K5 B5 G6 OV
    have CV := Lib.hid (isWrongAst_any 64 ⟨p, zs, n⟩ (.slice va zs.length vcap) _ (Own.sl O6.out) ⟨hpl, hzl⟩ (by omega) (by omega))
    cases hx : Ex.ok1 64 ⟨p, zs, n⟩ with
    | false =>
      have hr := Lib.hid (hgb.out hx)
      rw [hx] at CV
      clear hx hgb hgo
      go_wp2_with fail
      refine CV.out.mono ?_
      rintro e w7 ⟨rfl, b7⟩
      have KW := Lib.hid (K6.out.all b7)
      have B7 := Lib.hid (bt B6.out b7)
      clear b7 y0 y2 x1' f1'
      have RW := Lib.hid (setA_whole KW.out [] (.slice none 0 0) 0)
      have RB := Lib.hid (setA_below B7.out (Nat.le_refl _) [] (.slice none 0 0) 0)
      obtain ⟨⟨z0, z1, z2⟩, f0, f1, f2⟩ := asv_three KW.out
      go_wp2_with fail
      change bodyPost _ _ _ _ _ (setA w7 w.heap.size [] (.slice none 0 0) 0)
      generalize setA w7 w.heap.size [] (.slice none 0 0) 0 = WZ at *
      obtain ⟨⟨d0, d1, d2⟩, -⟩ := asv_three RW.out
      exact bodyPost_ret (v := .tuple #[.agg #[.string ⟨#[]⟩, .slice none 0 0, .int .i64 0], .bool false]) (by simp [results, Tryd.results30, go_sem, d0, d1, d2]) rfl (RRa.no hr.out RB.out)
    | true =>
      have hr := Lib.hid (hgo.out hx)
      rw [hx] at CV
      clear hx hgb hgo
      go_wp2_with fail
      refine CV.out.mono ?_
      rintro e w7 ⟨rfl, b7⟩
      have KW := Lib.hid (K6.out.all b7)
      have X7 := Lib.hid (hX6.out.all b7)
      have B7 := Lib.hid (bt B6.out b7)
      have O7 := Lib.hid (own_belowAll O6.out b7)
      clear b7 y0 y2 x1' f1'
      obtain ⟨⟨x0, x1, x2⟩, -⟩ := asv_three X7.out
      obtain ⟨⟨z0, z1, z2⟩, f0, f1, f2⟩ := asv_three KW.out
      have RW := Lib.hid (setA_whole KW.out p (.slice va zs.length vcap) n)
      have RB := Lib.hid (setA_below B7.out (Nat.le_refl _) p (.slice va zs.length vcap) n)
      have O8 := Lib.hid (own_far O7.out (setA_only w7 w.heap.size p (.slice va zs.length vcap) n) (Nat.lt_trans hgX.out hlt4.out))
      have hle8 := Lib.hid (Nat.le_of_lt (Nat.lt_trans hgX.out hlt4.out))
      go_wp2_with fail
      change bodyPost _ _ _ _ _ (setA w7 w.heap.size p (.slice va zs.length vcap) n)
      generalize setA w7 w.heap.size p (.slice va zs.length vcap) n = WZ at *
      obtain ⟨⟨d0, d1, d2⟩, -⟩ := asv_three RW.out
      exact bodyPost_ret (v := .tuple #[.agg #[.string ⟨p.toArray⟩, .slice va zs.length vcap, .int .i64 n], .bool true]) (by simp [results, Tryd.results30, go_sem, d0, d1, d2]) rfl (RRa.yes hr.out (Go.Joins.ownsRow_le O8.out hle8.out) RB.out)
end Go.Proofs.YtaldmdammipfjaaDoor

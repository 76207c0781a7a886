/-
  Rows of rows of numbers of the call's own: how they grow, are compared, marked and looked at. No condition of its own.
-/
import Derived.Test.YteileaeeiejonaaDoorIntsM
import Derived.Deep.RegionHeld3
import Derived.StillTailTactics
import Derived.Shelf.Abstract
namespace Go.Proofs.YteileaeeiejonaaDoor
open Go.RowKit Go.Shelf Go.Deep
set_option linter.unusedVariables false
set_option maxRecDepth 100000

theorem info_rows : (Tryd.prog.info? 41).map (fun i => (i.zero, i.size, i.bytes)) = some (some (.slice none 0 0), 1, 24) := by kernel_rfl
/-- a row: its block, its capacity, its numbers -/
abbrev Rw := Nat × Nat × List Int
def rwV (t : Rw) : Value := .slice (some ⟨t.1, 0, none⟩) t.2.2.length t.2.1
/-- slice value v is a row of the call's own of rows of the call's own -/
structure OSS (B : Nat) (w : World) (v : Value) (L : List Rw) : Prop where
  outer : w.ownsRow B 41 1 v L.length (L.map rwV)
  row : ∀ t ∈ L, Own B w (rwV t) t.2.2
  nd : (L.map (·.1)).Nodup
def OwnSS (B : Nat) (w : World) (v : Value) (zss : List (List Int)) : Prop := ∃ L, OSS B w v L ∧ L.map (·.2.2) = zss
def SlSS (w : World) (v : Value) (zss : List (List Int)) : Prop := ∃ B, OwnSS B w v zss
theorem OwnSS.sl {B : Nat} {w : World} {v : Value} {zss : List (List Int)} (h : OwnSS B w v zss) : SlSS w v zss := ⟨B, h⟩
theorem OSS.belowAll {B : Nat} {w w1 : World} {v : Value} {L : List Rw} (h : OSS B w v L) (hb : Below w.heap.size w w1) : OSS B w1 v L := ⟨own_belowAll h.outer hb, fun t ht => (h.row t ht).belowAll hb, h.nd⟩
theorem OwnSS.belowAll {B : Nat} {w w1 : World} {v : Value} {zss : List (List Int)} (h : OwnSS B w v zss) (hb : Below w.heap.size w w1) : OwnSS B w1 v zss := by
  obtain ⟨L, h1, h2⟩ := h; exact ⟨L, h1.belowAll hb, h2⟩
theorem OwnSS.far {B x : Nat} {w w1 : World} {v : Value} {zss : List (List Int)} (h : OwnSS B w v zss) (hg : w.grownBy w1 (some x)) (hx : x < B) : OwnSS B w1 v zss := by
  obtain ⟨L, h1, h2⟩ := h; exact ⟨L, ⟨own_far h1.outer hg hx, fun t ht => (h1.row t ht).far hg hx, h1.nd⟩, h2⟩
theorem OwnSS.le {B B' : Nat} {w : World} {v : Value} {zss : List (List Int)} (h : OwnSS B w v zss) (hB : B' ≤ B) : OwnSS B' w v zss := by
  obtain ⟨L, h1, h2⟩ := h; exact ⟨L, ⟨Go.Joins.ownsRow_le h1.outer hB, fun t ht => Go.Joins.ownsRow_le (h1.row t ht) hB, h1.nd⟩, h2⟩
theorem OwnSS.nil {B : Nat} {w : World} : OwnSS B w (.slice none 0 0) [] := ⟨[], ⟨World.ownsRow_nil _ _ _ _, (fun t ht => by cases ht), List.nodup_nil⟩, rfl⟩
theorem OSS.apart {B g : Nat} {w : World} {v : Value} {L : List Rw} (h : OSS B w v L) (hv : v.ownBlock = some g) {t : Rw} (ht : t ∈ L) : t.1 ≠ g := by
  intro e
  have hr := h.row t ht
  rcases hr.2 with ⟨h0, -⟩ | ⟨b, cap, cur, he, -, hh, -⟩
  · cases h0
  · unfold rwV at he
    simp only [Value.slice.injEq, Option.some.injEq, Addr.mk.injEq] at he
    obtain ⟨⟨rfl, -⟩, -, -⟩ := he
    rcases h.outer.2 with ⟨h0, -⟩ | ⟨b2, cap2, cur2, he2, -, hh2, -⟩
    · rw [h0] at hv; cases hv
    · rw [he2] at hv
      have : b2 = g := by simpa [Value.ownBlock] using hv
      subst this
      rw [e, hh2] at hh
      simp only [Option.some.injEq, Obj.cells.injEq] at hh
      exact absurd hh.2.1 (by decide)
theorem OSS.snoc {B : Nat} {w w' : World} {v v' : Value} {L : List Rw} {t : Rw} (h : OSS B w v L) (ht : Own B w (rwV t) t.2.2) (hn : ∀ s ∈ L, s.1 ≠ t.1) (hv : v.ownBlock ≠ some t.1)
    (ho : w'.ownsRow B 41 1 v' (L.length + 1) (L.map rwV ++ [rwV t])) (hg : w.grownBy w' v.ownBlock) : OSS B w' v' (L ++ [t]) := by
  have kp : ∀ s : Rw, Own B w (rwV s) s.2.2 → v.ownBlock ≠ some s.1 → Own B w' (rwV s) s.2.2 := fun s hs hne => World.ownsRow.kept hs hg (Or.inr (fun e => hne (by rw [← e]; rfl)))
  refine ⟨by rw [List.length_append, List.map_append]; exact ho, fun s hs => ?_, ?_⟩
  · rw [List.mem_append, List.mem_singleton] at hs
    rcases hs with hs | rfl
    · exact kp s (h.row s hs) (fun e => h.apart e hs rfl)
    · exact kp _ ht hv
  · rw [List.map_append, List.nodup_append]
    refine ⟨h.nd, by simp, ?_⟩
    intro a ha b hb
    obtain ⟨s, hs, rfl⟩ := List.mem_map.1 ha
    simp only [List.map_cons, List.map_nil, List.mem_singleton] at hb
    subst hb
    exact hn s hs
/-- the numbers of one row change -/
theorem OSS.put {B : Nat} {w w' : World} {v : Value} {L1 L2 : List Rw} {t t' : Rw} (h : OSS B w v (L1 ++ t :: L2)) (h1 : t'.1 = t.1) (h2 : t'.2.1 = t.2.1) (h3 : t'.2.2.length = t.2.2.length) (hg : w.grownBy w' (some t.1)) (ho : Own B w' (rwV t') t'.2.2) : OSS B w' v (L1 ++ t' :: L2) := by
  have hm : t ∈ L1 ++ t :: L2 := by simp
  have hrv : rwV t' = rwV t := by unfold rwV; rw [h1, h2, h3]
  have hnd := h.nd
  rw [List.map_append, List.map_cons, List.nodup_append, List.nodup_cons] at hnd
  obtain ⟨n1, ⟨n2, n3⟩, n4⟩ := hnd
  refine ⟨?_, fun s hs => ?_, ?_⟩
  · have := World.ownsRow.kept h.outer hg (by
      cases hu : v.ownBlock with
      | none => exact Or.inl rfl
      | some a => exact Or.inr (fun e => h.apart hu hm (by simpa using e.symm)))
    simpa [hrv] using this
  · rw [List.mem_append, List.mem_cons] at hs
    have kp : s ∈ L1 ++ t :: L2 → s.1 ≠ t.1 → Own B w' (rwV s) s.2.2 := fun hs hne => World.ownsRow.kept (h.row s hs) hg (Or.inr (fun e => hne (by simpa [rwV, Value.ownBlock] using e)))
    rcases hs with hs | rfl | hs
    · exact kp (by simp [hs]) (n4 _ (List.mem_map.2 ⟨s, hs, rfl⟩) _ (by simp))
    · exact ho
    · exact kp (by simp [hs]) (fun e => n2 (by rw [← e]; exact List.mem_map.2 ⟨s, hs, rfl⟩))
  · rw [List.map_append, List.map_cons, h1, List.nodup_append, List.nodup_cons]
    exact ⟨n1, ⟨n2, n3⟩, n4⟩
/-- how many numbers there are -/
def tot : List (List Int) → Nat
  | [] => 0
  | z :: zs => z.length + tot zs
theorem tot_app (a b : List (List Int)) : tot (a ++ b) = tot a + tot b := by
  induction a with
  | nil => simp [tot]
  | cons x xs ih => rw [List.cons_append, tot, tot, ih]; omega
theorem tot_take {zss : List (List Int)} {k : Nat} (h : k < zss.length) : tot (zss.take (k + 1)) = tot (zss.take k) + (zss[k]).length := by
  rw [List.take_succ_eq_append_getElem h, tot_app]; simp [tot]
theorem tot_le (zss : List (List Int)) (k : Nat) : tot (zss.take k) ≤ tot zss := by
  have := tot_app (zss.take k) (zss.drop k)
  rw [List.take_append_drop] at this; omega
theorem row_le {zss : List (List Int)} {k : Nat} (h : k < zss.length) : (zss[k]).length ≤ tot zss := by
  have h1 := tot_take h; have h2 := tot_le zss (k + 1); omega
/-- the marks of rows, from k on -/
def mks : Int → List (List Int) → List (List Int)
  | _, [] => []
  | k, z :: zs => upTo k z.length :: mks (k + z.length) zs
theorem mks_app (k : Int) (a b : List (List Int)) : mks k (a ++ b) = mks k a ++ mks (k + tot a) b := by
  induction a generalizing k with
  | nil => simp [mks, tot]
  | cons x xs ih => rw [List.cons_append, mks, mks, ih, tot, List.cons_append]; congr 3; omega
theorem mks_len (k : Int) (a : List (List Int)) : (mks k a).length = a.length := by
  induction a generalizing k with
  | nil => rfl
  | cons x xs ih => rw [mks, List.length_cons, List.length_cons, ih]
theorem mks_at {k : Int} {a : List (List Int)} {i : Nat} (h : i < a.length) : (mks k a)[i]'(by rw [mks_len]; exact h) = upTo (k + tot (a.take i)) (a[i]).length := by
  have e1 : a = a.take i ++ a[i] :: a.drop (i + 1) := by rw [← List.drop_eq_getElem_cons h, List.take_append_drop]
  have e2 : mks k a = mks k (a.take i) ++ mks (k + tot (a.take i)) (a[i] :: a.drop (i + 1)) := by
    conv => lhs; rw [e1]
    exact mks_app _ _ _
  have hl : (mks k (a.take i)).length = i := by rw [mks_len, List.length_take]; omega
  have : (mks k a)[i]? = some (upTo (k + tot (a.take i)) (a[i]).length) := by
    rw [e2, List.getElem?_append_right (by omega), hl, Nat.sub_self, mks]; rfl
  rw [List.getElem?_eq_getElem (by rw [mks_len]; exact h)] at this
  exact Option.some.inj this
/-- the cells of the outer row -/
theorem OSS.at_ {B : Nat} {w : World} {v : Value} {L : List Rw} (h : OSS B w v L) {k : Nat} (hk : k < L.length) :
    ∃ g cap, v = .slice (some ⟨g, 0, none⟩) L.length cap ∧ g < w.heap.size ∧ w.cell? ⟨g, k, none⟩ = some (rwV L[k]) := by
  rcases h.outer.2 with ⟨h0, h1⟩ | ⟨g, cap, cur, he, -, hh, -⟩
  · omega
  · subst he
    refine ⟨g, cap, rfl, (Array.getElem?_eq_some_iff.1 hh).1, ?_⟩
    rw [h.outer.cellAt k (by omega), List.getElem?_map, List.getElem?_eq_getElem hk]; rfl
theorem OSS.form {B : Nat} {w : World} {v : Value} {L : List Rw} (h : OSS B w v L) : ∃ a cap, v = .slice a L.length cap := by
  rcases Go.Joins.ownsRow_forms h.outer with ⟨rfl, hn⟩ | ⟨g, cap, rfl⟩
  · exact ⟨none, 0, by rw [hn]⟩
  · exact ⟨_, _, rfl⟩
set_option maxHeartbeats 3200000 in
theorem eqInt64SS_any (w : World) (v u : Value) (zss yss : List (List Int)) (hv : SlSS w v zss) (hu : SlSS w u yss) (hl : tot zss ≤ 1048576 ∧ zss.length ≤ 1048576) (hy : yss = zss) :
    Calls Tryd.prog 41 #[v, u] w fun e w' => e = .returned (.bool (zss == yss)) ∧ Below w.heap.size w w' := by
  subst hy
  rw [beq_self_eq_true]
  obtain ⟨B1, L1, H1, e1⟩ := hv
  obtain ⟨B2, L2, H2, e2⟩ := hu
  obtain ⟨a1, c1, rfl⟩ := H1.form
  obtain ⟨a2, c2, rfl⟩ := H2.form
  have n1 : L1.length = yss.length := by rw [← e1, List.length_map]
  have n2 : L2.length = yss.length := by rw [← e2, List.length_map]
  rw [n1] at H1 ⊢
  rw [n2] at H2 ⊢
  have X1 := Lib.hid H1
  have X2 := Lib.hid H2
  clear H1 H2
  obtain ⟨hl1, hl2⟩ := hl
  have hne : ((yss.length : Int) != yss.length) = false := by simp
  have E1 := Lib.hid e1
  have E2 := Lib.hid e2
  clear e1 e2
  go_enter Tryd.func41, Tryd.ntmps41
  go_wp2_with fail
  clear hne
  go_loopw [5] (fun i wr => ∃ k : Nat, k ≤ yss.length ∧ i = .int .i64 k ∧ Hid (Below w.heap.size w wr)) (fun i _ => yss.length - (intOf i).toNat)
  case atStart => exact ⟨0, Nat.zero_le _, rfl, Lib.hid (Below.refl _ _)⟩
  case round =>
    obtain ⟨k, hk, rfl, hb⟩ := hrel
    by_cases hlt : k < yss.length
    · have hltz : (k : Int) < (yss.length : Int) := by omega
      have k0 : (0 : Int) ≤ (k : Int) := by omega
      obtain ⟨g1, cc1, f1, gl1, -⟩ := (X1.out.belowAll hb.out).at_ (k := k) (by omega)
      obtain ⟨g2, cc2, f2, gl2, -⟩ := (X2.out.belowAll hb.out).at_ (k := k) (by omega)
      simp only [Value.slice.injEq] at f1 f2
      obtain ⟨rfl, -, -⟩ := f1
      obtain ⟨rfl, -, -⟩ := f2
      have m1 : (L1[k]'(by omega)).2.2 = yss[k] := by have h := E1.out; subst h; simp
      have m2 : (L2[k]'(by omega)).2.2 = yss[k] := by have h := E2.out; subst h; simp
      have KA := Lib.hid (fun W (h : Below wr.heap.size wr W) => by
        obtain ⟨q1, d1, p1, -, r1⟩ := (X1.out.belowAll (bt hb.out h)).at_ (k := k) (by omega)
        obtain ⟨q2, d2, p2, -, r2⟩ := (X2.out.belowAll (bt hb.out h)).at_ (k := k) (by omega)
        simp only [Value.slice.injEq, Option.some.injEq, Addr.mk.injEq] at p1 p2
        obtain ⟨⟨rfl, -⟩, -, -⟩ := p1
        obtain ⟨⟨rfl, -⟩, -, -⟩ := p2
        exact (⟨r1, r2⟩ : W.cell? ⟨g1, k, none⟩ = some (rwV (L1[k]'(by omega))) ∧ W.cell? ⟨g2, k, none⟩ = some (rwV (L2[k]'(by omega)))))
      have CE := Lib.hid (fun W (h : Below wr.heap.size wr W) => eqInt64S_any W (rwV (L1[k]'(by omega))) (rwV (L2[k]'(by omega))) yss[k] yss[k] (by rw [← m1]; exact ((X1.out.row _ (List.getElem_mem _)).belowAll (bt hb.out h)).sl) (by rw [← m2]; exact ((X2.out.row _ (List.getElem_mem _)).belowAll (bt hb.out h)).sl) (Nat.le_trans (row_le hlt) hl1) (Nat.le_trans (row_le hlt) hl1))
      have hself : (yss[k] == yss[k]) = true := beq_self_eq_true _
      rw [hself] at CE
      clear hself m1 m2
      generalize rwV (L1[k]'(by omega)) = r1 at *
      generalize rwV (L2[k]'(by omega)) = r2 at *
      obtain ⟨d1, d2⟩ := KA.out wr (Below.refl _ _)
      go_wp2_with fail
      go_region_held3 (fun w' => w'.cell? ⟨g1, k, none⟩ = some r1 ∧ w'.cell? ⟨g2, k, none⟩ = some r2) (go_keep)
        (first | (go_at_call 29; refine (CE.out _ (below_drewW _ 1)).mono ?_; rintro e wA ⟨rfl, bA⟩; have bA0 := bt (below_drewW _ 1) bA; obtain ⟨z1, z2⟩ := KA.out wA bA0))
      have HB := Lib.hid (bt hb.out bA0)
      clear bA bA0
      go_wp2_with fail
      exact ⟨⟨k + 1, by omega, by go_num, HB⟩, by simp only [intOf]; omega⟩
    · have hltz : ¬ (k : Int) < (yss.length : Int) := by omega
      go_wp2
      go_ret
      exact ⟨rfl, hb.out⟩
def mkL : Int → List Rw → List Rw
  | _, [] => []
  | k, t :: ts => (t.1, t.2.1, upTo k t.2.2.length) :: mkL (k + t.2.2.length) ts
theorem mkL_num (k : Int) (L : List Rw) : (mkL k L).map (·.2.2) = mks k (L.map (·.2.2)) := by
  induction L generalizing k with
  | nil => rfl
  | cons t ts ih => rw [mkL, List.map_cons, List.map_cons, mks, ih]
theorem mkL_len (k : Int) (L : List Rw) : (mkL k L).length = L.length := by
  induction L generalizing k with
  | nil => rfl
  | cons t ts ih => rw [mkL, List.length_cons, List.length_cons, ih]
theorem mkL_app (k : Int) (a : List Rw) (t : Rw) : mkL k (a ++ [t]) = mkL k a ++ [(t.1, t.2.1, upTo (k + tot (a.map (·.2.2))) t.2.2.length)] := by
  induction a generalizing k with
  | nil => simp [mkL, tot]
  | cons x xs ih =>
    rw [List.cons_append, mkL, mkL, ih, List.map_cons, tot, List.cons_append]
    congr 4
    rw [Int.natCast_add, Int.add_assoc]
theorem OSS.mid {B : Nat} {w : World} {v : Value} {L1 L2 : List Rw} {t : Rw} (h : OSS B w v (L1 ++ t :: L2)) :
    ∃ g cap, v = .slice (some ⟨g, 0, none⟩) (L1 ++ t :: L2).length cap ∧ g < w.heap.size ∧ w.cell? ⟨g, L1.length, none⟩ = some (rwV t) := by
  obtain ⟨g, cap, h1, h2, h3⟩ := h.at_ (k := L1.length) (by simp)
  exact ⟨g, cap, h1, h2, by rw [h3]; simp⟩
set_option maxHeartbeats 3200000 in
theorem markInt64SS_res (B : Nat) (w : World) (v : Value) (zss : List (List Int)) (k0 : Int) (h0 : 1 ≤ k0) (h1 : k0 ≤ 1000000) (ho : OwnSS B w v zss) (hl : tot zss ≤ 1048576 ∧ zss.length ≤ 1048576) (hB : B ≤ w.heap.size) :
    Calls Tryd.prog 42 #[v, .int .i64 k0] w fun e w' => e = .returned (.int .i64 (k0 + tot zss)) ∧ OwnSS B w' v (mks k0 zss) ∧ Below B w w' := by
  obtain ⟨L, H, hz⟩ := ho
  obtain ⟨a, cap, rfl⟩ := H.form
  have X := Lib.hid (show OSS B w (.slice a L.length cap) (mkL k0 (L.take 0) ++ L.drop 0) from H)
  have HZ := Lib.hid hz
  have hn : zss.length = L.length := by rw [← hz, List.length_map]
  obtain ⟨hl1, hl2⟩ := hl
  have HB := Lib.hid hB
  clear H hz hB
  go_enter Tryd.func42, Tryd.ntmps42
  go_wp2
  go_loopw [1, 5] (fun x i wr => ∃ k : Nat, k ≤ L.length ∧ i = .int .i64 k ∧ x = .int .i64 (k0 + tot (zss.take k)) ∧ Hid (Below B w wr) ∧ Hid (OSS B wr (.slice a L.length cap) (mkL k0 (L.take k) ++ L.drop k))) (fun _ i _ => L.length - (intOf i).toNat)
  case atStart => exact ⟨0, Nat.zero_le _, rfl, by simp [tot], Lib.hid (Below.refl _ _), X⟩
  case round =>
    obtain ⟨k, hk, rfl, rfl, hb, hx⟩ := hrel
    clear X
    by_cases hlt : k < L.length
    · have hltz : (k : Int) < (L.length : Int) := by omega
      have hd : L.drop k = L[k] :: L.drop (k + 1) := List.drop_eq_getElem_cons hlt
      have hx2 := hx.out
      rw [hd] at hx2
      have hml : (mkL k0 (L.take k)).length = k := by rw [mkL_len, List.length_take]; omega
      obtain ⟨g, cap2, f1, gl, c1⟩ := hx2.mid
      rw [hml] at c1
      simp only [Value.slice.injEq] at f1
      obtain ⟨rfl, -, -⟩ := f1
      have hrow := hx2.row L[k] (List.mem_append_right _ (List.mem_cons_self ..))
      have hlen : (L[k]).2.2.length = (zss[k]'(by omega)).length := by have := HZ.out; subst this; simp
      have ht := tot_take (zss := zss) (k := k) (by omega)
      have ht2 := tot_le zss (k + 1)
      have hkk : (L.take k).map (·.2.2) = zss.take k := by rw [← HZ.out, List.map_take]
      have CM := Lib.hid (markInt64S_own B wr (L[k]).1 (L[k]).2.2.length (L[k]).2.1 (iv (L[k]).2.2) (k0 + tot (zss.take k)) (by omega) (by omega) hrow (by omega))
      have HP : Hid (∀ W, wr.grownBy W (some (L[k]).1) → Own B W (rwV ((L[k]).1, (L[k]).2.1, upTo (k0 + tot (zss.take k)) (L[k]).2.2.length)) (upTo (k0 + tot (zss.take k)) (L[k]).2.2.length) → OSS B W (.slice (some ⟨g, 0, none⟩) L.length cap) (mkL k0 (L.take (k + 1)) ++ L.drop (k + 1))) := Lib.hid (fun W hg hr => by
        have := hx2.put (t' := ((L[k]).1, (L[k]).2.1, upTo (k0 + tot (zss.take k)) (L[k]).2.2.length)) rfl rfl (by simp [upTo_length]) hg hr
        rw [List.take_succ_eq_append_getElem hlt, mkL_app, hkk, List.append_assoc]
        exact this)
      have hBg : Hid (B ≤ (L[k]).1) := Lib.hid (World.ownsRow.lt hrow _ rfl).1
      have hnew : Hid (k0 + ((tot (zss.take k) : Nat) : Int) + (((L[k]).2.2.length : Nat) : Int) = k0 + ((tot (zss.take (k + 1)) : Nat) : Int)) := Lib.hid (by rw [ht]; omega)
      have hmx : k0 + ((tot (zss.take k) : Nat) : Int) + (((L[k]).2.2.length : Nat) : Int) ≤ 3000000 := by omega
      clear hx2 hd hkk ht ht2 hlen hrow hml
      unfold rwV at c1
      generalize L[k] = t at *
      generalize ((tot (zss.take k) : Nat) : Int) = m at *
      go_wp2_with fail
      refine CM.out.mono ?_
      rintro e w2 ⟨rfl, o2, g2⟩
      have X2 := Lib.hid (HP.out w2 g2 (by unfold Own rwV; rw [upTo_length]; exact o2))
      have B2 := Lib.hid (hb.out.trans (only_below g2 hBg.out (Nat.le_trans HB.out hb.out.size)))
      clear o2 g2
      go_wp2_with fail
      exact ⟨⟨k + 1, by omega, by go_num, by rw [hnew.out], B2, X2⟩, by simp only [intOf]; omega⟩
    · have hltz : ¬ (k : Int) < (L.length : Int) := by omega
      have e1 : L.take k = L := List.take_of_length_le (by omega)
      have e2 : L.drop k = [] := List.drop_eq_nil_of_le (by omega)
      have e3 : zss.take k = zss := List.take_of_length_le (by omega)
      have hx2 := hx.out
      rw [e1, e2, List.append_nil] at hx2
      rw [e3]
      clear e1 e2 e3
      go_wp2
      go_ret
      exact ⟨rfl, ⟨_, hx2, by rw [mkL_num, HZ.out]⟩, hb.out⟩
set_option maxHeartbeats 3200000 in
theorem heldInt64SS_own (B : Nat) (w : World) (v : Value) (zss : List (List Int)) (k0 : Int) (h0 : 1 ≤ k0) (h1 : k0 ≤ 1000000) (hl : tot zss ≤ 1048576 ∧ zss.length ≤ 1048576) (ho : OwnSS B w v (mks k0 zss)) :
    Calls Tryd.prog 43 #[v, .int .i64 k0] w fun e w' => e = .returned (.int .i64 (k0 + tot zss)) ∧ Below w.heap.size w w' := by
  obtain ⟨L, H, hz⟩ := ho
  obtain ⟨a, cap, rfl⟩ := H.form
  have X := Lib.hid H
  have HZ := Lib.hid hz
  have hn : zss.length = L.length := by have := congrArg List.length hz; rw [List.length_map, mks_len] at this; omega
  obtain ⟨hl1, hl2⟩ := hl
  clear H hz
  go_enter Tryd.func43, Tryd.ntmps43
  go_wp2
  go_loopw [1, 5] (fun x i wr => ∃ k : Nat, k ≤ L.length ∧ i = .int .i64 k ∧ x = .int .i64 (k0 + tot (zss.take k)) ∧ Hid (Below w.heap.size w wr)) (fun _ i _ => L.length - (intOf i).toNat)
  case atStart => exact ⟨0, Nat.zero_le _, rfl, by simp [tot], Lib.hid (Below.refl _ _)⟩
  case round =>
    obtain ⟨k, hk, rfl, rfl, hb⟩ := hrel
    by_cases hlt : k < L.length
    · have hltz : (k : Int) < (L.length : Int) := by omega
      obtain ⟨g, cap2, f1, gl, c1⟩ := (X.out.belowAll hb.out).at_ hlt
      simp only [Value.slice.injEq] at f1
      obtain ⟨rfl, -, -⟩ := f1
      have hrow := (X.out.row L[k] (List.getElem_mem hlt)).belowAll hb.out
      have hnum : (L[k]).2.2 = upTo (k0 + tot (zss.take k)) (zss[k]'(by omega)).length := by
        rw [← mks_at (k := k0) (a := zss) (i := k) (by omega)]
        have hh := HZ.out
        have h3 : (L.map (·.2.2))[k]'(by rw [List.length_map]; exact hlt) = (mks k0 zss)[k]'(by rw [mks_len]; omega) := by congr 1
        rw [List.getElem_map] at h3
        exact h3
      have ht := tot_take (zss := zss) (k := k) (by omega)
      have ht2 := tot_le zss (k + 1)
      rw [hnum] at hrow
      have CM := Lib.hid (heldInt64S_any wr (rwV L[k]) (zss[k]'(by omega)).length (k0 + tot (zss.take k)) (by omega) (by omega) (Own.sl hrow) (by omega))
      have hnew : Hid (k0 + ((tot (zss.take k) : Nat) : Int) + (((zss[k]'(by omega)).length : Nat) : Int) = k0 + ((tot (zss.take (k + 1)) : Nat) : Int)) := Lib.hid (by rw [ht]; omega)
      have hmx : k0 + ((tot (zss.take k) : Nat) : Int) + (((zss[k]'(by omega)).length : Nat) : Int) ≤ 3000000 := by omega
      have hm0 : (0 : Int) ≤ ((tot (zss.take k) : Nat) : Int) := by omega
      have hm1 : (0 : Int) ≤ (((zss[k]'(by omega)).length : Nat) : Int) := by omega
      clear ht ht2 hrow hnum
      generalize rwV L[k] = t at *
      generalize ((tot (zss.take k) : Nat) : Int) = m at *
      generalize (((zss[k]'(by omega)).length : Nat) : Int) = q at *
      go_wp2_with fail
      refine CM.out.mono ?_
      rintro e w2 ⟨rfl, b2⟩
      have B2 := Lib.hid (bt hb.out b2)
      have hge : ¬ k0 + m + q < 0 := by omega
      clear b2
      go_wp2_with fail
      exact ⟨⟨k + 1, by omega, by go_num, by rw [hnew.out], B2⟩, by simp only [intOf]; omega⟩
    · have hltz : ¬ (k : Int) < (L.length : Int) := by omega
      have e3 : zss.take k = zss := List.take_of_length_le (by omega)
      rw [e3]
      clear e3
      go_wp2
      go_ret
      exact ⟨rfl, hb.out⟩
end Go.Proofs.YteileaeeiejonaaDoor

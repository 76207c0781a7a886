/-
  Cells and those next to them of nearly the same height (chapter 11). No Go in sight.
-/
import Derived.Test.YthcmpalbhaefbaaDoorBoM
import Derived.Test.YthcmpalbhaefbaaDoorRlL
namespace Go.Proofs.YthcmpalbhaefbaaDoor
open Go.RowKit Go.Shelf
set_option linter.unusedVariables false
set_option maxRecDepth 100000
namespace Gw
/-- is the step from a cell to another one nearly flat? -/
def nbB (zs : List Int) (most : Int) (k x : Nat) : Bool := Ar.inB (-most) (drp zs k x) most
def gwN (zs : List Int) (most : Int) (k : Nat) (out l : List Int) : List Int := l.foldl (fun o n => if nbB zs most k n.toNat = true then Ptq.pt n o else o) out
theorem gwN_take {zs : List Int} {most : Int} {k : Nat} {out l : List Int} {m : Nat} (h : m < l.length) : gwN zs most k out (l.take (m + 1)) = if nbB zs most k l[m].toNat = true then Ptq.pt l[m] (gwN zs most k out (l.take m)) else gwN zs most k out (l.take m) := by
  unfold gwN; rw [List.take_succ_eq_append_getElem h, List.foldl_append]; rfl
def gwA (r c : Int) (zs : List Int) (most : Int) (out ks : List Int) : List Int := ks.foldl (fun o k => gwN zs most k.toNat o (near r c k 8)) out
theorem gwA_take {r c : Int} {zs : List Int} {most : Int} {out ks : List Int} {m : Nat} (h : m < ks.length) : gwA r c zs most out (ks.take (m + 1)) = gwN zs most ks[m].toNat (gwA r c zs most out (ks.take m)) (near r c ks[m] 8) := by
  unfold gwA; rw [List.take_succ_eq_append_getElem h, List.foldl_append]; rfl
theorem gwN_mem {zs : List Int} {most : Int} {k : Nat} {x : Int} : ∀ (l out : List Int), x ∈ gwN zs most k out l ↔ x ∈ out ∨ (x ∈ l ∧ nbB zs most k x.toNat = true)
  | [], out => by simp [gwN]
  | n :: l, out => by
    have ih := gwN_mem (zs := zs) (most := most) (k := k) (x := x) l (if nbB zs most k n.toNat = true then Ptq.pt n out else out)
    show x ∈ gwN zs most k (if nbB zs most k n.toNat = true then Ptq.pt n out else out) l ↔ _
    rw [ih]
    by_cases h : nbB zs most k n.toNat = true
    · rw [if_pos h, Ptq.pt_ins, Ptq.mem_ins, List.mem_cons]
      constructor
      · rintro ((rfl | h1) | ⟨h1, h2⟩)
        · exact Or.inr ⟨Or.inl rfl, h⟩
        · exact Or.inl h1
        · exact Or.inr ⟨Or.inr h1, h2⟩
      · rintro (h1 | ⟨rfl | h1, h2⟩)
        · exact Or.inl (Or.inr h1)
        · exact Or.inl (Or.inl rfl)
        · exact Or.inr ⟨h1, h2⟩
    · rw [if_neg h, List.mem_cons]
      constructor
      · rintro (h1 | ⟨h1, h2⟩)
        · exact Or.inl h1
        · exact Or.inr ⟨Or.inr h1, h2⟩
      · rintro (h1 | ⟨rfl | h1, h2⟩)
        · exact Or.inl h1
        · exact absurd h2 h
        · exact Or.inr ⟨h1, h2⟩
theorem gwN_up {zs : List Int} {most : Int} {k : Nat} : ∀ (l out : List Int), out.Pairwise (· < ·) → (gwN zs most k out l).Pairwise (· < ·)
  | [], out, h => h
  | n :: l, out, h => by
    show (gwN zs most k (if nbB zs most k n.toNat = true then Ptq.pt n out else out) l).Pairwise (· < ·)
    refine gwN_up l _ ?_
    split
    · rw [Ptq.pt_ins]; exact Ptq.ins_up h
    · exact h
theorem gwA_mem {r c : Int} {zs : List Int} {most : Int} {x : Int} : ∀ (ks out : List Int), x ∈ gwA r c zs most out ks ↔ x ∈ out ∨ ∃ k ∈ ks, x ∈ near r c k 8 ∧ nbB zs most k.toNat x.toNat = true
  | [], out => by simp [gwA]
  | k :: ks, out => by
    show x ∈ gwA r c zs most (gwN zs most k.toNat out (near r c k 8)) ks ↔ _
    rw [gwA_mem ks, gwN_mem]
    constructor
    · rintro ((h | h) | ⟨y, h1, h2⟩)
      · exact Or.inl h
      · exact Or.inr ⟨k, List.mem_cons_self .., h⟩
      · exact Or.inr ⟨y, List.mem_cons_of_mem _ h1, h2⟩
    · rintro (h | ⟨y, h1, h2⟩)
      · exact Or.inl (Or.inl h)
      · rcases List.mem_cons.1 h1 with rfl | h1
        · exact Or.inl (Or.inr h2)
        · exact Or.inr ⟨y, h1, h2⟩
theorem gwA_up {r c : Int} {zs : List Int} {most : Int} : ∀ (ks out : List Int), out.Pairwise (· < ·) → (gwA r c zs most out ks).Pairwise (· < ·)
  | [], out, h => h
  | k :: ks, out, h => gwA_up ks _ (gwN_up _ _ h)
/-- the kind of the steps from a cell -/
def nbP (r c : Int) (zs : List Int) (most : Int) (k : Nat) (a : Nat) : Bool := nbB zs most k (goC r c k a).toNat
def gwW (r c : Int) (zs : List Int) (most : Int) (ks : List Int) : List Int := ks.flatMap (fun k => arL r c (k.toNat : Int) (nbP r c zs most k.toNat) (dirs r c (k.toNat : Int)))
theorem gwW_take {r c : Int} {zs : List Int} {most : Int} {ks : List Int} {m : Nat} (h : m < ks.length) : gwW r c zs most (ks.take (m + 1)) = gwW r c zs most (ks.take m) ++ arL r c (ks[m].toNat : Int) (nbP r c zs most ks[m].toNat) (dirs r c (ks[m].toNat : Int)) := by
  unfold gwW; rw [List.take_succ_eq_append_getElem h, List.flatMap_append]; simp
theorem gwW_mem {r c : Int} {zs : List Int} {most : Int} {ks : List Int} (hk : ∀ k ∈ ks, 0 ≤ k) {x : Int} : x ∈ gwW r c zs most ks ↔ ∃ k ∈ ks, x ∈ near r c k 8 ∧ nbB zs most k.toNat x.toNat = true := by
  unfold gwW
  rw [List.mem_flatMap]
  constructor
  · rintro ⟨k, h1, h2⟩
    refine ⟨k, h1, ?_⟩
    rw [Int.toNat_of_nonneg (hk k h1)] at h2
    unfold arL at h2
    obtain ⟨a, h3, rfl⟩ := List.mem_map.1 h2
    obtain ⟨h4, h5⟩ := List.mem_filter.1 h3
    obtain ⟨h6, h7⟩ := mem_dirs.1 h4
    refine ⟨(near_mem 8).2 ⟨a, h6, h7, rfl⟩, ?_⟩
    unfold nbP at h5
    rw [Int.toNat_of_nonneg (hk k h1)] at h5
    exact h5
  · rintro ⟨k, h1, h2, h3⟩
    refine ⟨k, h1, ?_⟩
    rw [Int.toNat_of_nonneg (hk k h1)]
    obtain ⟨a, h4, h5, rfl⟩ := (near_mem 8).1 h2
    unfold arL
    refine List.mem_map.2 ⟨a, List.mem_filter.2 ⟨mem_dirs.2 ⟨h4, h5⟩, ?_⟩, rfl⟩
    unfold nbP
    rw [Int.toNat_of_nonneg (hk k h1)]
    exact h3
theorem gwA_bd {r c s : Int} {zs : List Int} {most : Int} (G : Good r c s zs) {ks : List Int} (hx : ∀ x ∈ ks, 0 ≤ x ∧ x < zs.length) (l : List Int) : ∀ x ∈ gwA r c zs most ks l, 0 ≤ x ∧ x < zs.length := fun x h => by
  rcases (gwA_mem l ks).1 h with h | ⟨k, _, h2, _⟩
  · exact hx x h
  · exact near_bd G.c1 G.n h2
theorem up_le64 {ks : List Int} (hu : ks.Pairwise (· < ·)) (hx : ∀ x ∈ ks, 0 ≤ x ∧ x < 64) : ks.length ≤ 64 := by
  have := Rl.count_sN ks (Rl.up_of none ks (fun _ _ => rfl) hu) hx
  have h2 := List.countP_le_length (p := fun i => (Rl.sN ks).testBit i) (l := List.range 64)
  rw [List.length_range] at h2
  omega
/-- the word's indices are the cells grown -/
theorem gw_word {r c s : Int} {zs : List Int} {most : Int} (G : Good r c s zs) {ks : List Int} (hu : ks.Pairwise (· < ·)) (hx : ∀ x ∈ ks, 0 ≤ x ∧ x < zs.length) : stF (Rl.sN (ks ++ gwW r c zs most ks)).testBit 64 = gwA r c zs most ks ks := by
  have hlen := G.len
  have hk : ∀ k ∈ ks, 0 ≤ k := fun k h => (hx k h).1
  have hall : ∀ x, x ∈ ks ++ gwW r c zs most ks ↔ x ∈ gwA r c zs most ks ks := fun x => by rw [List.mem_append, gwW_mem hk, gwA_mem]
  have hb := gwA_bd (most := most) G hx ks
  refine Ptq.up_ext (stF_up _ _) (gwA_up ks ks hu) (fun x => ?_)
  rw [stF_mem, ← hall]
  constructor
  · rintro ⟨i, _, h2, rfl⟩
    exact (Rl.sN_mem (fun y hy => (hb y ((hall y).1 hy)).1)).1 h2
  · intro h
    obtain ⟨b1, b2⟩ := hb x ((hall x).1 h)
    have e : ((x.toNat : Nat) : Int) = x := Int.toNat_of_nonneg b1
    exact ⟨x.toNat, by omega, (Rl.sN_mem (fun y hy => (hb y ((hall y).1 hy)).1)).2 (by rw [e]; exact h), e.symm⟩
theorem gw_lt {r c s : Int} {zs : List Int} {most : Int} (G : Good r c s zs) {ks : List Int} (hx : ∀ x ∈ ks, 0 ≤ x ∧ x < zs.length) (m : Nat) : Rl.sN (ks ++ gwW r c zs most (ks.take m)) < 18446744073709551616 := by
  have hlen := G.len
  have := Rl.sN_lt (xs := ks ++ gwW r c zs most (ks.take m)) (fun x h => by
    rcases List.mem_append.1 h with h | h
    · have := hx x h; omega
    · obtain ⟨k, _, h2, _⟩ := (gwW_mem (fun k h => (hx k (List.mem_of_mem_take h)).1)).1 h
      have := near_bd G.c1 G.n h2; omega)
  simpa using this
def gwC (r c s : Int) (zs ks : List Int) (most : Int) : Int := odC (ok r c s zs) (Ar.inB 0 most 5000) (Rl.ri 0 (zs.length - 1) ks)
theorem gw_0 {r c s : Int} {zs ks : List Int} {most : Int} (h : gwC r c s zs ks most = 0) : Good r c s zs ∧ ks.Pairwise (· < ·) ∧ (∀ x ∈ ks, 0 ≤ x ∧ x < zs.length) ∧ ks.length ≤ 64 ∧ 0 ≤ most ∧ most ≤ 5000 := by
  obtain ⟨h1, h2, h3⟩ := od_zero2 h
  obtain ⟨g1, g2, g3, g4⟩ := rq_0 (r := r) (c := c) (s := s) (zs := zs) (ks := ks) (by unfold rqC; rw [h1, h3]; rfl)
  obtain ⟨m1, m2⟩ := inB_iff.1 h2
  exact ⟨g1, g2, g3, g4, m1, m2⟩
def gwL (r c s : Int) (zs ks : List Int) (most : Int) : List Int := if gwC r c s zs ks most = 0 then gwA r c zs most ks ks else []
theorem gw_no {r c s : Int} {zs ks : List Int} {most : Int} (h : gwC r c s zs ks most ≠ 0) : gwL r c s zs ks most = [] := by unfold gwL; rw [if_neg h]
theorem gw_yes {r c s : Int} {zs ks : List Int} {most : Int} (h : gwC r c s zs ks most = 0) : gwL r c s zs ks most = gwA r c zs most ks ks := by unfold gwL; rw [if_pos h]
theorem gwA_len {r c s : Int} {zs : List Int} {most : Int} (G : Good r c s zs) {ks : List Int} (hu : ks.Pairwise (· < ·)) (hx : ∀ x ∈ ks, 0 ≤ x ∧ x < zs.length) (l : List Int) : (gwA r c zs most ks l).length ≤ 64 := by
  have hlen := G.len
  exact up_le64 (gwA_up l ks hu) (fun x h => by have := gwA_bd (most := most) G hx l x h; omega)
theorem gwL_len (r c s : Int) (zs ks : List Int) (most : Int) : (gwL r c s zs ks most).length ≤ 1048576 := by
  unfold gwL; split
  · rename_i h
    obtain ⟨G, hu, hx, -⟩ := gw_0 h
    exact Nat.le_trans (gwA_len G hu hx ks) (by decide)
  · simp
end Gw
end Go.Proofs.YthcmpalbhaefbaaDoor

import Derived.Test.YteileaeeiejonaaDoorTk
import Derived.Test.YteileaeeiejonaaDoorCd
/-
  Plain mathematics of chapter 8: the depth of the weakest layer. No Go in sight.
-/
namespace Go.Proofs.YteileaeeiejonaaDoor
namespace Tq
/-- is a depth near another one? -/
def nr (n d e : Int) : Bool := decide (Ar.ab (e - d) ≤ n)
/-- is a test weak? -/
def wk (x : Tst) : Bool := decide (cls x ≤ 2)
/-- the depths of the weak tests -/
def wd (xs : List Tst) : List Int := (xs.filter wk).map (·.de)
/-- how many depths are near one -/
def cn (n : Int) (ds : List Int) (d : Int) : Int := ((ds.filter (nr n d)).length : Int)
theorem wd_snoc {xs : List Tst} {k : Nat} (h : k < xs.length) : wd (xs.take (k + 1)) = wd (xs.take k) ++ (if wk xs[k] then [xs[k].de] else []) := by
  rw [List.take_succ_eq_append_getElem h]; unfold wd
  rw [List.filter_append, List.map_append]
  cases hw : wk xs[k] <;> simp [hw]
theorem wd_yes {xs : List Tst} {k : Nat} (h : k < xs.length) (hw : wk xs[k] = true) : wd (xs.take (k + 1)) = wd (xs.take k) ++ [xs[k].de] := by rw [wd_snoc h, if_pos hw]
theorem wd_no {xs : List Tst} {k : Nat} (h : k < xs.length) (hw : wk xs[k] = false) : wd (xs.take (k + 1)) = wd (xs.take k) := by rw [wd_snoc h, hw]; simp
theorem wd_len (xs : List Tst) : (wd xs).length ≤ xs.length := by unfold wd; rw [List.length_map]; exact List.length_filter_le _ _
theorem wd_mem {xs : List Tst} {k : Nat} (h : k < xs.length) (hw : wk xs[k] = true) : xs[k].de ∈ wd xs := by
  unfold wd; exact List.mem_map.2 ⟨_, List.mem_filter.2 ⟨List.getElem_mem h, hw⟩, rfl⟩
theorem wd_bd {xs : List Tst} (h : okS xs = true) : ∀ d ∈ wd xs, 1 ≤ d ∧ d ≤ 300 := by
  intro d hd
  unfold wd at hd
  obtain ⟨x, hx, rfl⟩ := List.mem_map.1 hd
  have F := ((okS_iff xs).1 h).2.1 x (List.mem_filter.1 hx).1
  exact ⟨F.d1, F.d2⟩
theorem cn_app (n d : Int) (xs : List Int) (e : Int) : cn n (xs ++ [e]) d = cn n xs d + (if nr n d e then 1 else 0) := by
  unfold cn; rw [List.filter_append]
  cases hw : nr n d e <;> simp [hw]
theorem cn_len (n d : Int) (xs : List Int) : 0 ≤ cn n xs d ∧ cn n xs d ≤ xs.length := by
  unfold cn; have := List.length_filter_le (nr n d) xs; omega
theorem cn_pos {n d : Int} {xs : List Int} (hn : 0 ≤ n) (hd : d ∈ xs) : 0 < cn n xs d := by
  unfold cn
  have h1 : d ∈ xs.filter (nr n d) := List.mem_filter.2 ⟨hd, by unfold nr Ar.ab; rw [decide_eq_true_eq]; split <;> omega⟩
  have := List.length_pos_of_mem h1
  omega
theorem cn_perm {n d : Int} {xs ys : List Int} (h : xs.Perm ys) : cn n xs d = cn n ys d := by
  unfold cn; rw [(h.filter (nr n d)).length_eq]
theorem cn_yes {xs : List Tst} {k : Nat} {n d : Int} (h : k < xs.length) (hw : wk xs[k] = true) (hn : nr n d xs[k].de = true) : cn n (wd (xs.take (k + 1))) d = cn n (wd (xs.take k)) d + 1 := by rw [wd_yes h hw, cn_app, if_pos hn]
theorem cn_far {xs : List Tst} {k : Nat} {n d : Int} (h : k < xs.length) (hw : wk xs[k] = true) (hn : nr n d xs[k].de = false) : cn n (wd (xs.take (k + 1))) d = cn n (wd (xs.take k)) d := by rw [wd_yes h hw, cn_app, hn]; simp
theorem cn_no {xs : List Tst} {k : Nat} {n d : Int} (h : k < xs.length) (hw : wk xs[k] = false) : cn n (wd (xs.take (k + 1))) d = cn n (wd (xs.take k)) d := by rw [wd_no h hw]
/-- the best of some depths, by how many it has and by how little it is -/
structure Bst (c : Int → Int) (ds : List Int) (b m : Int) : Prop where
  all : ∀ d ∈ ds, c d ≤ m ∧ (c d = m → b ≤ d)
  has : (ds = [] ∧ b = 0 ∧ m = 0) ∨ (b ∈ ds ∧ m = c b)
theorem Bst.none (c : Int → Int) : Bst c [] 0 0 := ⟨(fun d hd => by cases hd), Or.inl ⟨rfl, rfl, rfl⟩⟩
theorem Bst.put {c : Int → Int} {ds : List Int} {b m d : Int} (h : Bst c ds b m) (hc : m < c d ∨ (c d = m ∧ d < b)) : Bst c (ds ++ [d]) d (c d) := by
  refine ⟨fun e he => ?_, Or.inr ⟨by simp, rfl⟩⟩
  rw [List.mem_append, List.mem_singleton] at he
  rcases he with he | rfl
  · obtain ⟨h1, h2⟩ := h.all e he
    refine ⟨by omega, fun h3 => ?_⟩
    rcases hc with h4 | ⟨h4, h5⟩
    · omega
    · have := h2 (by omega); omega
  · exact ⟨Int.le_refl _, fun _ => Int.le_refl _⟩
theorem Bst.keep {c : Int → Int} {ds : List Int} {b m d : Int} (h : Bst c ds b m) (hp : 0 < c d) (h1 : c d ≤ m) (h2 : c d = m → b ≤ d) : Bst c (ds ++ [d]) b m := by
  refine ⟨fun e he => ?_, ?_⟩
  · rw [List.mem_append, List.mem_singleton] at he
    rcases he with he | rfl
    · exact h.all e he
    · exact ⟨h1, h2⟩
  · rcases h.has with ⟨-, -, h3⟩ | ⟨h3, h4⟩
    · omega
    · exact Or.inr ⟨by simp [h3], h4⟩
theorem Bst.one {c c' : Int → Int} {ds ds' : List Int} {b m b' m' : Int} (h : Bst c ds b m) (h' : Bst c' ds' b' m') (hp : ds.Perm ds') (hc : ∀ d, c d = c' d) : b = b' ∧ m = m' := by
  rcases h.has with ⟨h1, h2, h3⟩ | ⟨h1, h2⟩ <;> rcases h'.has with ⟨k1, k2, k3⟩ | ⟨k1, k2⟩
  · exact ⟨by omega, by omega⟩
  · subst h1; have := hp.nil_eq; subst this; cases k1
  · subst k1; have := hp.symm.nil_eq; subst this; cases h1
  · have a1 := h.all b' (hp.mem_iff.2 k1)
    have a2 := h'.all b (hp.mem_iff.1 h1)
    rw [hc b'] at a1; rw [hc b] at h2; 
    have hm : m = m' := by omega
    exact ⟨by have := a1.2 (by omega); have := a2.2 (by omega); omega, hm⟩
theorem Bst.pos {c : Int → Int} {ds : List Int} {b m : Int} (h : Bst c ds b m) (hp : ∀ d ∈ ds, 0 < c d) (hn : 0 < ds.length) : 0 < m ∧ b ∈ ds := by
  rcases h.has with ⟨rfl, -, -⟩ | ⟨h1, h2⟩
  · cases hn
  · exact ⟨by have := hp b h1; omega, h1⟩
def bsS (c : Int → Int) (p : Int × Int) (d : Int) : Int × Int := if p.2 < c d ∨ (c d = p.2 ∧ d < p.1) then (d, c d) else p
def bs (c : Int → Int) (ds : List Int) : Int × Int := ds.foldl (bsS c) (0, 0)
theorem bs_ok (c : Int → Int) (ds : List Int) (hp : ∀ d ∈ ds, 0 < c d) : Bst c ds (bs c ds).1 (bs c ds).2 := by
  have key : ∀ (k : Nat), k ≤ ds.length → Bst c (ds.take k) (bs c (ds.take k)).1 (bs c (ds.take k)).2 := by
    intro k
    induction k with
    | zero => intro _; rw [List.take_zero]; exact Bst.none c
    | succ k ih =>
      intro hk
      have I := ih (by omega)
      have hb : bs c (ds.take (k + 1)) = bsS c (bs c (ds.take k)) (ds[k]'(by omega)) := by rw [List.take_succ_eq_append_getElem (by omega)]; unfold bs; rw [List.foldl_append]; rfl
      rw [hb, List.take_succ_eq_append_getElem (by omega)]
      unfold bsS
      split
      · next h => exact I.put h
      · next h => exact I.keep (hp _ (List.getElem_mem _)) (by omega) (by omega)
  have := key ds.length (Nat.le_refl _)
  rwa [List.take_length] at this
def wpB (xs : List Tst) (n : Int) : Int := if okS xs = true ∧ Ar.inB 0 n 300 = true then (bs (cn n (wd xs)) (wd xs)).1 else 0
def wpM (xs : List Tst) (n : Int) : Int := if okS xs = true ∧ Ar.inB 0 n 300 = true then (bs (cn n (wd xs)) (wd xs)).2 else 0
def wpC (xs : List Tst) (n : Int) : Int := if okS xs = true then (if Ar.inB 0 n 300 = true then (if (wd xs).length = 0 then 3 else 0) else 2) else 1
theorem wp_bad {xs : List Tst} {n : Int} (h : okS xs = false) : wpB xs n = 0 ∧ wpM xs n = 0 ∧ wpC xs n = 1 := by unfold wpB wpM wpC; rw [h]; simp
theorem wp_lim {xs : List Tst} {n : Int} (h : okS xs = true) (hs : Ar.inB 0 n 300 = false) : wpB xs n = 0 ∧ wpM xs n = 0 ∧ wpC xs n = 2 := by unfold wpB wpM wpC; rw [h, hs]; simp
theorem wp_nil {xs : List Tst} {n : Int} (h : okS xs = true) (hs : Ar.inB 0 n 300 = true) (h0 : (wd xs).length = 0) : wpB xs n = 0 ∧ wpM xs n = 0 ∧ wpC xs n = 3 := by
  have : wd xs = [] := List.eq_nil_of_length_eq_zero h0
  unfold wpB wpM wpC; rw [h, hs, this]; simp [bs]
theorem wp_yes {xs : List Tst} {n : Int} (h : okS xs = true) (hs : Ar.inB 0 n 300 = true) (h0 : 0 < (wd xs).length) {c : Int → Int} {ds : List Int} {b m : Int} (hb : Bst c ds b m) (hp : ds.Perm (wd xs)) (hc : ∀ d, c d = cn n (wd xs) d) : wpB xs n = b ∧ wpM xs n = m ∧ wpC xs n = 0 := by
  have hn := inB_iff.1 hs
  have h2 := bs_ok (cn n (wd xs)) (wd xs) (fun d hd => cn_pos hn.1 hd)
  obtain ⟨e1, e2⟩ := hb.one h2 hp hc
  have h3 : ¬ (wd xs).length = 0 := by omega
  unfold wpB wpM wpC; rw [h, hs, if_pos ⟨rfl, rfl⟩, if_pos ⟨rfl, rfl⟩, if_pos rfl, if_pos rfl, if_neg h3]
  exact ⟨e1.symm, e2.symm, rfl⟩
end Tq
end Go.Proofs.YteileaeeiejonaaDoor

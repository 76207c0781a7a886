/-
  Plain mathematics of chapter 6: fields of snow, a step in wind as a fold over the cells, what a step keeps. No Go in sight.
-/
import Derived.Test.YtmidihmbehaegaaDoorArith
namespace Go.Proofs.YtmidihmbehaegaaDoor.Fw
open Go.Proofs.YtmidihmbehaegaaDoor.Ar
set_option linter.unusedVariables false

/-- a mass as it should be -/
def okM (z : Int) : Bool := inB 0 z 1000000
def okMs (zs : List Int) : Bool := zs.all okM
/-- as many masses as the sides ask for -/
def fits (r c : Int) (n : Nat) : Bool := inB 1 r 8 && inB 1 c 8 && decide ((n : Int) = r * c)
def ok (r c : Int) (zs : List Int) : Bool := fits r c zs.length && okMs zs
theorem okM_iff (z : Int) : okM z = true ↔ 0 ≤ z ∧ z ≤ 1000000 := by unfold okM inB; simp
theorem okMs_iff (zs : List Int) : okMs zs = true ↔ ∀ z ∈ zs, 0 ≤ z ∧ z ≤ 1000000 := by
  unfold okMs; rw [List.all_eq_true]; exact ⟨fun h z hz => (okM_iff z).1 (h z hz), fun h z hz => (okM_iff z).2 (h z hz)⟩
theorem fits_iff (r c : Int) (n : Nat) : fits r c n = true ↔ (1 ≤ r ∧ r ≤ 8) ∧ (1 ≤ c ∧ c ≤ 8) ∧ (n : Int) = r * c := by
  unfold fits inB; simp [and_assoc]
theorem prod_le {r c : Int} (h1 : 1 ≤ r) (h2 : r ≤ 8) (h3 : 1 ≤ c) (h4 : c ≤ 8) : 1 ≤ r * c ∧ r * c ≤ 64 := by
  have a := Int.mul_le_mul h2 h4 (by omega) (by omega)
  have b := Int.mul_le_mul h1 h3 (by omega) (by omega)
  omega
theorem ok_iff (r c : Int) (zs : List Int) : ok r c zs = true ↔ fits r c zs.length = true ∧ okMs zs = true := by unfold ok; simp
theorem fits_len {r c : Int} {n : Nat} (h : fits r c n = true) : 1 ≤ n ∧ n ≤ 64 := by
  obtain ⟨⟨a, b⟩, ⟨d, e⟩, f⟩ := (fits_iff r c n).1 h
  have := prod_le a b d e
  omega
theorem okMs_snoc {zs : List Int} {k : Nat} (h : k < zs.length) : okMs (zs.take (k + 1)) = (okMs (zs.take k) && okM zs[k]) := by
  unfold okMs; rw [List.take_succ_eq_append_getElem h, List.all_append]; simp
theorem okMs_no {zs : List Int} {k : Nat} (h : k < zs.length) (hk : okM zs[k] = false) : okMs zs = false := by
  unfold okMs; rw [List.all_eq_false]; exact ⟨zs[k], List.getElem_mem h, by rw [hk]; decide⟩
theorem okMs_getD {zs : List Int} (h : okMs zs = true) (k : Nat) : 0 ≤ zs.getD k 0 ∧ zs.getD k 0 ≤ 1000000 := by
  rcases Nat.lt_or_ge k zs.length with hk | hk
  · rw [List.getD_eq_getElem?_getD, List.getElem?_eq_getElem hk]; exact (okMs_iff zs).1 h _ (List.getElem_mem hk)
  · rw [List.getD_eq_getElem?_getD, List.getElem?_eq_none hk]; exact ⟨Int.le_refl _, by decide⟩

/-- the way of the snow -/
def wr (d : Int) : Int := if d = 0 then 1 else if d = 2 then -1 else 0
def wc (d : Int) : Int := if d = 1 then -1 else if d = 3 then 1 else 0
/-- the cell next to one on the other side of the wind, or -1 -/
def nx (r c k d : Int) : Int := if 0 ≤ k / c + wr d ∧ k / c + wr d < r ∧ 0 ≤ k % c + wc d ∧ k % c + wc d < c then (k / c + wr d) * c + (k % c + wc d) else -1
theorem nx_bd (r c k d : Int) (hc : 1 ≤ c) : -1 ≤ nx r c k d ∧ nx r c k d < max 0 (r * c) := by
  unfold nx
  split
  · rename_i h
    obtain ⟨a, b, e, f⟩ := h
    generalize k / c + wr d = x at *
    generalize k % c + wc d = y at *
    have g : x * c + c ≤ r * c := by
      have := Int.mul_le_mul_of_nonneg_right (show x + 1 ≤ r by omega) (show 0 ≤ c by omega)
      rw [Int.add_mul, Int.one_mul] at this; exact this
    have g0 : 0 ≤ x * c := Int.mul_nonneg a (by omega)
    omega
  · omega
/-- what a cell gives -/
def gv (s z : Int) : Int := dr (z * s) 1000
theorem gv_bd {s z : Int} (h1 : 0 ≤ s) (h2 : s ≤ 1000) (h3 : 0 ≤ z) (h4 : z ≤ 1000000) : 0 ≤ z * s ∧ z * s ≤ 1000000000 ∧ 0 ≤ gv s z ∧ gv s z ≤ 1000000 := by
  have a : 0 ≤ z * s := Int.mul_nonneg h3 h1
  have b : z * s ≤ 1000000000 := by have := Int.mul_le_mul h4 h2 h1 (by omega); omega
  refine ⟨a, b, ?_⟩
  unfold gv
  rw [dr_pos a (by omega)]
  split <;> omega
/-- a cell gets some more -/
def ad (ys : List Int) (k : Nat) (x : Int) : List Int := ys.set k (ys.getD k 0 + x)
theorem ad_length (ys : List Int) (k : Nat) (x : Int) : (ad ys k x).length = ys.length := by unfold ad; simp
theorem ad_at {ys : List Int} {k : Nat} (x : Int) (h : k < ys.length) : (ad ys k x).getD k 0 = ys.getD k 0 + x := by
  unfold ad; rw [List.getD_eq_getElem?_getD, List.getElem?_set_self h]; rfl
theorem ad_ne {ys : List Int} {k j : Nat} (x : Int) (h : k ≠ j) : (ad ys k x).getD j 0 = ys.getD j 0 := by
  unfold ad; rw [List.getD_eq_getElem?_getD, List.getElem?_set_ne h, ← List.getD_eq_getElem?_getD]
theorem ad_zero (ys : List Int) (k : Nat) : ad ys k 0 = ys := by
  unfold ad; rw [Int.add_zero]
  rcases Nat.lt_or_ge k ys.length with h | h
  · rw [List.getD_eq_getElem?_getD, List.getElem?_eq_getElem h]; simp
  · exact List.set_eq_of_length_le h
theorem sum_set : ∀ (ys : List Int) (k : Nat) (x : Int), k < ys.length → (ys.set k x).sum = ys.sum - ys.getD k 0 + x
  | y :: ys, 0, x, _ => by simp; omega
  | y :: ys, k + 1, x, h => by
    have := sum_set ys k x (by simpa using h)
    simp only [List.set_cons_succ, List.sum_cons, this, List.getD_cons_succ]; omega
theorem ad_sum {ys : List Int} {k : Nat} (x : Int) (h : k < ys.length) : (ad ys k x).sum = ys.sum + x := by
  unfold ad; rw [sum_set _ _ _ h]; omega
/-- the masses after the first k cells have given -/
def stp (r c d s : Int) (zs : List Int) : Nat → List Int
  | 0 => zs
  | k + 1 => if nx r c k d < 0 then stp r c d s zs k else ad (ad (stp r c d s zs k) k (-(gv s (zs.getD k 0)))) (nx r c k d).toNat (gv s (zs.getD k 0))
theorem stp_no {r c d s : Int} {zs : List Int} {k : Nat} (h : nx r c k d < 0) : stp r c d s zs (k + 1) = stp r c d s zs k := by rw [stp, if_pos h]
theorem stp_yes {r c d s : Int} {zs : List Int} {k : Nat} (h : ¬ nx r c k d < 0) : stp r c d s zs (k + 1) = ad (ad (stp r c d s zs k) k (-(gv s (zs.getD k 0)))) (nx r c k d).toNat (gv s (zs.getD k 0)) := by rw [stp, if_neg h]
theorem stp_length (r c d s : Int) (zs : List Int) : ∀ k, (stp r c d s zs k).length = zs.length
  | 0 => rfl
  | k + 1 => by
    have := stp_length r c d s zs k
    rw [stp]; split
    · exact this
    · rw [ad_length, ad_length]; exact this
theorem ad_abs {ys : List Int} {m x : Int} (_ : 0 ≤ m) (h : ∀ j : Nat, -m ≤ ys.getD j 0 ∧ ys.getD j 0 ≤ m) (k : Nat) (hx : -1000000 ≤ x ∧ x ≤ 1000000) (j : Nat) : -(m + 1000000) ≤ (ad ys k x).getD j 0 ∧ (ad ys k x).getD j 0 ≤ m + 1000000 := by
  rcases Nat.lt_or_ge k ys.length with hk | hk
  · by_cases e : k = j
    · subst e; rw [ad_at x hk]; have := h k; omega
    · rw [ad_ne x e]; have := h j; omega
  · unfold ad; rw [List.set_eq_of_length_le hk]; have := h j; omega
/-- nothing grows beyond what int64 holds -/
theorem stp_abs {r c d s : Int} {zs : List Int} (h1 : 0 ≤ s) (h2 : s ≤ 1000) (h : okMs zs = true) : ∀ (k j : Nat), -(1000000 + 2000000 * (k : Int)) ≤ (stp r c d s zs k).getD j 0 ∧ (stp r c d s zs k).getD j 0 ≤ 1000000 + 2000000 * (k : Int)
  | 0, j => by have := okMs_getD h j; rw [stp]; omega
  | k + 1, j => by
    have ih := stp_abs (r := r) (c := c) (d := d) h1 h2 h k
    obtain ⟨_, _, g1, g2⟩ := gv_bd h1 h2 (okMs_getD h k).1 (okMs_getD h k).2
    rw [stp]; split
    · have := ih j; omega
    · have a := ad_abs (m := 1000000 + 2000000 * (k : Int)) (by omega) ih k (x := -(gv s (zs.getD k 0))) (by omega)
      have b := ad_abs (m := 1000000 + 2000000 * (k : Int) + 1000000) (by omega) a (nx r c k d).toNat (x := gv s (zs.getD k 0)) (by omega) j
      omega
/-- a step keeps all snow -/
theorem stp_sum {r c d s : Int} {zs : List Int} (hc : 1 ≤ c) (hl : (zs.length : Int) = r * c) : ∀ k, k ≤ zs.length → (stp r c d s zs k).sum = zs.sum
  | 0, _ => rfl
  | k + 1, hk => by
    have ih := stp_sum (d := d) (s := s) hc hl k (by omega)
    have hn := nx_bd r c k d hc
    rw [stp]; split
    · exact ih
    · rw [ad_sum _ (by rw [ad_length, stp_length]; omega), ad_sum _ (by rw [stp_length]; omega), ih]; omega
theorem gv_zero (z : Int) : gv 0 z = 0 := by unfold gv; rw [Int.mul_zero]; rfl
theorem stp_still (r c d : Int) (zs : List Int) : ∀ k, stp r c d 0 zs k = zs
  | 0 => rfl
  | k + 1 => by
    rw [stp, stp_still r c d zs k, gv_zero]
    split
    · rfl
    · rw [Int.neg_zero, ad_zero, ad_zero]
/-- a whole step -/
def st (r c d s : Int) (zs : List Int) : List Int := stp r c d s zs zs.length
theorem st_length (r c d s : Int) (zs : List Int) : (st r c d s zs).length = zs.length := stp_length ..
theorem st_sum {r c d s : Int} {zs : List Int} (h : ok r c zs = true) : (st r c d s zs).sum = zs.sum := by
  obtain ⟨h1, h2⟩ := (ok_iff r c zs).1 h
  obtain ⟨_, ⟨hc, _⟩, hl⟩ := (fits_iff _ _ _).1 h1
  exact stp_sum hc hl _ (Nat.le_refl _)
theorem st_ok {r c d s : Int} {zs : List Int} (h : ok r c zs = true) (h' : okMs (st r c d s zs) = true) : ok r c (st r c d s zs) = true := by
  obtain ⟨h1, h2⟩ := (ok_iff r c zs).1 h
  exact (ok_iff _ _ _).2 ⟨by rw [st_length]; exact h1, h'⟩
/-- steps, one after the other: nothing if one of them fails -/
def run (r c s : Int) : List Int → List Int → Option (List Int)
  | zs, [] => some zs
  | zs, d :: ds => if okMs (st r c d s zs) = true then run r c s (st r c d s zs) ds else none
theorem run_cons_t {r c s d : Int} {zs ds : List Int} (h : okMs (st r c d s zs) = true) : run r c s zs (d :: ds) = run r c s (st r c d s zs) ds := by rw [run, if_pos h]
theorem run_cons_f {r c s d : Int} {zs ds : List Int} (h : okMs (st r c d s zs) = false) : run r c s zs (d :: ds) = none := by rw [run, if_neg (by rw [h]; decide)]
theorem run_ok {r c s : Int} : ∀ {ds zs ys : List Int}, ok r c zs = true → run r c s zs ds = some ys → ok r c ys = true ∧ ys.sum = zs.sum ∧ ys.length = zs.length
  | [], zs, ys, h, e => by rw [run] at e; injection e with e; subst e; exact ⟨h, rfl, rfl⟩
  | d :: ds, zs, ys, h, e => by
    rw [run] at e
    split at e
    · rename_i h'
      obtain ⟨a, b, l⟩ := run_ok (st_ok h h') e
      exact ⟨a, b.trans (st_sum h), l.trans (st_length ..)⟩
    · cases e
theorem run_still {r c : Int} : ∀ {ds zs : List Int}, ok r c zs = true → run r c 0 zs ds = some zs
  | [], zs, _ => rfl
  | d :: ds, zs, h => by
    have e : st r c d 0 zs = zs := stp_still ..
    rw [run, e, if_pos ((ok_iff r c zs).1 h).2]; exact run_still h
/-- the first steps, while none fails -/
def runN (r c s : Int) (zs : List Int) : List Int → Nat → List Int
  | _, 0 => zs
  | ds, k + 1 => st r c (ds.getD k 0) s (runN r c s zs ds k)
/-- a direction as it should be -/
def okD (d : Int) : Bool := inB 0 d 3
def okDs (ds : List Int) : Bool := decide (ds.length ≤ 24) && ds.all okD
def okS (s : Int) : Bool := inB 0 s 1000
/-- the code of a question with numbers as stated or not -/
def cd (a b : Bool) : Int := if a = false then 1 else if b = false then 2 else 0
def cds (a b : Bool) (y : Bool) : Int := if a = false then 1 else if b = false then 2 else if y = false then 6 else 0
/-- what cells gain -/
def gn (zs ys : List Int) : List Int := List.zipWith (fun y z => y - z) ys zs
theorem gn_length {zs ys : List Int} (h : ys.length = zs.length) : (gn zs ys).length = zs.length := by unfold gn; simp [h]
theorem gn_at {zs ys : List Int} (h : ys.length = zs.length) (k : Nat) (hk : k < zs.length) : (gn zs ys)[k]? = some (ys.getD k 0 - zs.getD k 0) := by
  unfold gn
  rw [List.getElem?_zipWith, List.getD_eq_getElem?_getD, List.getD_eq_getElem?_getD, List.getElem?_eq_getElem hk, List.getElem?_eq_getElem (show k < ys.length by omega)]; rfl
theorem gn_sum : ∀ {zs ys : List Int}, ys.length = zs.length → (gn zs ys).sum = ys.sum - zs.sum
  | [], [], _ => rfl
  | z :: zs, y :: ys, h => by
    have := gn_sum (zs := zs) (ys := ys) (by simpa using h)
    unfold gn at this ⊢
    simp only [List.zipWith_cons_cons, List.sum_cons, this]; omega
/-- cells that gain at least so much, of the first n -/
def ld (gs : List Int) (least : Int) (n : Nat) : List Int := ((List.range n).filter fun k => decide (least ≤ gs.getD k 0)).map fun k : Nat => (k : Int)
theorem ld_snoc_t {gs : List Int} {least : Int} {n : Nat} (h : least ≤ gs.getD n 0) : ld gs least (n + 1) = ld gs least n ++ [(n : Int)] := by
  unfold ld; rw [List.range_succ, List.filter_append, List.map_append, List.filter_cons, if_pos (by simpa using h)]; rfl
theorem ld_snoc_f {gs : List Int} {least : Int} {n : Nat} (h : ¬ least ≤ gs.getD n 0) : ld gs least (n + 1) = ld gs least n := by
  unfold ld; rw [List.range_succ, List.filter_append, List.map_append, List.filter_cons, if_neg (by simpa using h)]; simp
theorem ld_length (gs : List Int) (least : Int) (n : Nat) : (ld gs least n).length ≤ n := by
  unfold ld; rw [List.length_map]; have := List.length_filter_le (fun k => decide (least ≤ gs.getD k 0)) (List.range n); simpa using this
/-- the greatest change of a mass, of the first n -/
def mc (zs ys : List Int) : Nat → Int
  | 0 => 0
  | n + 1 => max (mc zs ys n) (max (zs.getD n 0 - ys.getD n 0) (ys.getD n 0 - zs.getD n 0))
/-- the directions that are looked at, one after the other: the best one till now (or -1), and how much it adds -/
def wwS (r c s : Int) (zs : List Int) (cell : Nat) (d : Int) (b : Int × Int) : Int × Int :=
  if okMs (st r c d s zs) = true then (if b.1 < 0 ∨ b.2 < (st r c d s zs).getD cell 0 - zs.getD cell 0 then (d, (st r c d s zs).getD cell 0 - zs.getD cell 0) else b) else b
def ww (r c s : Int) (zs : List Int) (cell : Nat) : Nat → Int × Int
  | 0 => (-1, 0)
  | n + 1 => wwS r c s zs cell n (ww r c s zs cell n)
/-- when a field has settled: steps and code; n more steps may be tried -/
def sf (r c s limit : Int) : Nat → Int → List Int → Int × Int
  | 0, _, _ => (0, 3)
  | n + 1, k, zs => if okMs (st r c 0 s zs) = true then (if mc zs (st r c 0 s zs) zs.length ≤ limit then (k, 0) else sf r c s limit n (k + 1) (st r c 0 s zs)) else (0, 6)
/-- the cell next to one, direction by direction -/
theorem nx_0 {r c k : Int} (h1 : 0 ≤ k / c) (h3 : 0 ≤ k % c) (h4 : k % c < c) : nx r c k 0 = if k / c + 1 < r then (k / c + 1) * c + k % c else -1 := by
  unfold nx wr wc; simp only [if_true, Int.reduceEq, if_false, Int.add_zero]
  by_cases h : k / c + 1 < r
  · rw [if_pos ⟨by omega, h, h3, h4⟩, if_pos h]
  · rw [if_neg (fun x => h x.2.1), if_neg h]
theorem nx_1 {r c k : Int} (h1 : 0 ≤ k / c) (h2 : k / c < r) (h4 : k % c < c) : nx r c k 1 = if 0 ≤ k % c - 1 then k / c * c + (k % c - 1) else -1 := by
  unfold nx wr wc; simp only [if_true, Int.reduceEq, if_false, Int.add_zero]
  by_cases h : 0 ≤ k % c - 1
  · rw [if_pos ⟨h1, h2, by omega, by omega⟩, if_pos h]; rfl
  · rw [if_neg (fun x => h (by have := x.2.2.1; omega)), if_neg h]
theorem nx_2 {r c k : Int} (h2 : k / c < r) (h3 : 0 ≤ k % c) (h4 : k % c < c) : nx r c k 2 = if 0 ≤ k / c - 1 then (k / c - 1) * c + k % c else -1 := by
  unfold nx wr wc; simp only [if_true, Int.reduceEq, if_false, Int.add_zero]
  by_cases h : 0 ≤ k / c - 1
  · rw [if_pos ⟨by omega, by omega, h3, h4⟩, if_pos h]; rfl
  · rw [if_neg (fun x => h (by have := x.1; omega)), if_neg h]
theorem nx_3 {r c k : Int} (h1 : 0 ≤ k / c) (h2 : k / c < r) (h3 : 0 ≤ k % c) : nx r c k 3 = if k % c + 1 < c then k / c * c + (k % c + 1) else -1 := by
  unfold nx wr wc; simp only [if_true, Int.reduceEq, if_false, Int.add_zero]
  by_cases h : k % c + 1 < c
  · rw [if_pos ⟨h1, h2, by omega, h⟩, if_pos h]
  · rw [if_neg (fun x => h (by have := x.2.2.2; omega)), if_neg h]
/-- where a cell lies -/
theorem place {r c k : Int} (hc : 1 ≤ c) (hk : 0 ≤ k) (h : k < r * c) : 0 ≤ k / c ∧ k / c < r ∧ 0 ≤ k % c ∧ k % c < c := by
  refine ⟨Int.ediv_nonneg hk (by omega), Int.ediv_lt_of_lt_mul (by omega) h, Int.emod_nonneg _ (by omega), Int.emod_lt_of_pos _ (by omega)⟩
theorem rows_bd {q c : Int} (h1 : 0 ≤ q) (h2 : q ≤ 8) (h3 : 1 ≤ c) (h4 : c ≤ 8) : 0 ≤ q * c ∧ q * c ≤ 64 := by
  have a : 0 ≤ q * c := Int.mul_nonneg h1 (by omega)
  have b := Int.mul_le_mul h2 h4 (by omega) (by omega)
  omega
/-- no cell is next to itself -/
theorem nx_ne {r c k d : Int} (hc : 1 ≤ c) (hk : 0 ≤ k) (h : k < r * c) (d1 : 0 ≤ d) (d2 : d ≤ 3) : nx r c k d ≠ k := by
  obtain ⟨q0, q1, m0, m1⟩ := place hc hk h
  have e := Int.mul_ediv_add_emod k c
  rw [Int.mul_comm] at e
  have hd : d = 0 ∨ d = 1 ∨ d = 2 ∨ d = 3 := by omega
  rcases hd with rfl | rfl | rfl | rfl
  · rw [nx_0 q0 m0 m1]
    have : (k / c + 1) * c = k / c * c + c := by rw [Int.add_mul, Int.one_mul]
    split <;> omega
  · rw [nx_1 q0 q1 m1]; split <;> omega
  · rw [nx_2 q1 m0 m1]
    have : (k / c - 1) * c = k / c * c - c := by rw [Int.sub_mul, Int.one_mul]
    split <;> omega
  · rw [nx_3 q0 q1 m0]; split <;> omega
theorem stp_set {r c d s : Int} {zs : List Int} {k t : Nat} (h : ¬ nx r c k d < 0) (ht : (nx r c k d).toNat = t) (hne : k ≠ t) :
    ((stp r c d s zs k).set k ((stp r c d s zs k).getD k 0 - gv s (zs.getD k 0))).set t ((stp r c d s zs k).getD t 0 + gv s (zs.getD k 0)) = stp r c d s zs (k + 1) := by
  have e := ad_ne (ys := stp r c d s zs k) (-(gv s (zs.getD k 0))) hne
  rw [stp_yes h, ht]
  unfold ad at e ⊢
  rw [e, ← Int.sub_eq_add_neg]
/-- snow over a field: the first k cells -/
def up (m : Int) (zs : List Int) (k : Nat) : List Int := (zs.take k).map (· + m) ++ zs.drop k
theorem up_0 (m : Int) (zs : List Int) : up m zs 0 = zs := by unfold up; simp
theorem up_all (m : Int) (zs : List Int) : up m zs zs.length = zs.map (· + m) := by unfold up; simp
theorem up_length (m : Int) (zs : List Int) (k : Nat) : (up m zs k).length = zs.length := by unfold up; simp; omega
theorem up_at {m : Int} {zs : List Int} {k : Nat} (h : k < zs.length) : (up m zs k)[k]? = some zs[k] := by
  unfold up
  rw [List.getElem?_append_right (by simp; omega)]
  simp [Nat.min_eq_left (Nat.le_of_lt h)]
theorem up_set {m : Int} {zs : List Int} {k : Nat} (h : k < zs.length) : (up m zs k).set k (zs[k] + m) = up m zs (k + 1) := by
  have hl : ((zs.take k).map (· + m)).length = k := by simp; omega
  unfold up
  rw [List.set_append_right _ _ (by omega), hl, Nat.sub_self, List.drop_eq_getElem_cons h, List.set_cons_zero, List.take_succ_eq_append_getElem h, List.map_append, List.append_assoc]; rfl
theorem map_sum (m : Int) : ∀ zs : List Int, (zs.map (· + m)).sum = zs.sum + m * zs.length
  | [] => by simp
  | z :: zs => by
    have := map_sum m zs
    simp only [List.map_cons, List.sum_cons, this, List.length_cons]
    rw [show ((zs.length + 1 : Nat) : Int) = (zs.length : Int) + 1 by omega, Int.mul_add]; omega
theorem map_bd {m : Int} {zs : List Int} (h1 : 0 ≤ m) (h : okMs zs = true) {k : Nat} (hk : k < zs.length) : 0 ≤ zs[k] ∧ zs[k] ≤ 1000000 := (okMs_iff _).1 h _ (List.getElem_mem hk)
/-- what a call with a field and a code answers: numbers and masses of what is as it should be -/
def rI (b : Bool) (x : Int) : Int := if b then x else 0
def rZ (b : Bool) (zs : List Int) : List Int := if b then zs else []
/-- what SnowOver answers -/
def soB (r c : Int) (zs : List Int) (m : Int) : Bool := ok r c zs && (okM m && okMs (zs.map (· + m)))
def soC (r c : Int) (zs : List Int) (m : Int) : Int := cds (ok r c zs) (okM m) (okMs (zs.map (· + m)))
def soR (r c : Int) (zs : List Int) (m : Int) : Int := rI (soB r c zs m) r
def soK (r c : Int) (zs : List Int) (m : Int) : Int := rI (soB r c zs m) c
def soZ (r c : Int) (zs : List Int) (m : Int) : List Int := rZ (soB r c zs m) (zs.map (· + m))
theorem so_1 {r c m : Int} {zs : List Int} (h : ok r c zs = false) : soR r c zs m = 0 ∧ soK r c zs m = 0 ∧ soZ r c zs m = [] ∧ soC r c zs m = 1 := by unfold soR soK soZ soC soB; simp [h, rI, rZ, cds]
theorem so_2 {r c m : Int} {zs : List Int} (h : ok r c zs = true) (h2 : okM m = false) : soR r c zs m = 0 ∧ soK r c zs m = 0 ∧ soZ r c zs m = [] ∧ soC r c zs m = 2 := by unfold soR soK soZ soC soB; simp [h, h2, rI, rZ, cds]
theorem so_6 {r c m : Int} {zs : List Int} (h : ok r c zs = true) (h2 : okM m = true) (h3 : okMs (zs.map (· + m)) = false) : soR r c zs m = 0 ∧ soK r c zs m = 0 ∧ soZ r c zs m = [] ∧ soC r c zs m = 6 := by unfold soR soK soZ soC soB; simp only [h, h2, h3]; simp [rI, rZ, cds]
theorem so_0 {r c m : Int} {zs : List Int} (h : ok r c zs = true) (h2 : okM m = true) (h3 : okMs (zs.map (· + m)) = true) : soR r c zs m = r ∧ soK r c zs m = c ∧ soZ r c zs m = zs.map (· + m) ∧ soC r c zs m = 0 := by unfold soR soK soZ soC soB; simp only [h, h2, h3]; simp [rI, rZ, cds]
theorem soZ_len {r c m : Int} {zs : List Int} (hl : zs.length ≤ 1048576) : (soZ r c zs m).length ≤ 1048576 := by unfold soZ rZ; split <;> simp [hl]
/-- what DriftRun answers -/
def drO (r c : Int) (zs ds : List Int) (s : Int) : Option (List Int) := if (ok r c zs && (okDs ds && okS s)) = true then run r c s zs ds else none
def drC (r c : Int) (zs ds : List Int) (s : Int) : Int := cds (ok r c zs) (okDs ds && okS s) (run r c s zs ds).isSome
def drR (r c : Int) (zs ds : List Int) (s : Int) : Int := rI (drO r c zs ds s).isSome r
def drK (r c : Int) (zs ds : List Int) (s : Int) : Int := rI (drO r c zs ds s).isSome c
def drZ (r c : Int) (zs ds : List Int) (s : Int) : List Int := (drO r c zs ds s).getD []
theorem dr_1 {r c s : Int} {zs ds : List Int} (h : ok r c zs = false) : drR r c zs ds s = 0 ∧ drK r c zs ds s = 0 ∧ drZ r c zs ds s = [] ∧ drC r c zs ds s = 1 := by unfold drR drK drZ drC drO; simp [h, rI, cds]
theorem dr_2 {r c s : Int} {zs ds : List Int} (h : ok r c zs = true) (h2 : (okDs ds && okS s) = false) : drR r c zs ds s = 0 ∧ drK r c zs ds s = 0 ∧ drZ r c zs ds s = [] ∧ drC r c zs ds s = 2 := by unfold drR drK drZ drC drO; simp only [h, h2]; simp [rI, cds]
theorem dr_6 {r c s : Int} {zs ds : List Int} (h : ok r c zs = true) (h2 : (okDs ds && okS s) = true) (h3 : run r c s zs ds = none) : drR r c zs ds s = 0 ∧ drK r c zs ds s = 0 ∧ drZ r c zs ds s = [] ∧ drC r c zs ds s = 6 := by unfold drR drK drZ drC drO; simp only [h, h2, h3]; simp [rI, cds]
theorem dr_0 {r c s : Int} {zs ds ys : List Int} (h : ok r c zs = true) (h2 : (okDs ds && okS s) = true) (h3 : run r c s zs ds = some ys) : drR r c zs ds s = r ∧ drK r c zs ds s = c ∧ drZ r c zs ds s = ys ∧ drC r c zs ds s = 0 := by unfold drR drK drZ drC drO; simp only [h, h2, h3]; simp [rI, cds]
theorem drZ_len {r c s : Int} {zs ds : List Int} (hl : zs.length ≤ 1048576) : (drZ r c zs ds s).length ≤ 1048576 := by
  unfold drZ drO
  split
  · rename_i h
    have ho : ok r c zs = true := by simp only [Bool.and_eq_true] at h; exact h.1
    cases hr : run r c s zs ds with
    | none => simp
    | some ys => have := (run_ok ho hr).2.2; simp; omega
  · simp
end Go.Proofs.YtmidihmbehaegaaDoor.Fw

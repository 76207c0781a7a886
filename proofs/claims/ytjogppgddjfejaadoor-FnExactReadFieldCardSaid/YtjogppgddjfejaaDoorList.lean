import Derived.Test.YtjogppgddjfejaaDoorTab
import Derived.Test.YtjogppgddjfejaaDoorInts
import Derived.Laws.Concat
import Derived.Lib.Join
namespace Go.Proofs.YtjogppgddjfejaaDoor
open Go.RowKit
set_option linter.unusedVariables false

/-- is a number a value of chapter 1? -/
def okV (x : Int) : Bool := Ar.inB (-1000000000000) x 1000000000000
def fitB (zs : List Int) : Bool := zs.all okV && decide (zs.length ≤ 64)
theorem okV_bd {x : Int} (h : okV x = true) : -1000000000000 ≤ x ∧ x ≤ 1000000000000 := by unfold okV Ar.inB at h; simpa using h
theorem all_take_okf {zs : List Int} {k : Nat} (h : k < zs.length) (hf : okV zs[k] = false) : fitB zs = false := by
  have : zs.all okV = false := by
    rw [List.all_eq_false]; exact ⟨zs[k], List.getElem_mem h, by simp [hf]⟩
  unfold fitB; rw [this]; rfl
theorem take_all_succ {zs : List Int} {k : Nat} (h : k < zs.length) (hp : (zs.take k).all okV = true) (hv : okV zs[k] = true) : (zs.take (k + 1)).all okV = true := by
  rw [List.take_succ_eq_append_getElem h, List.all_append, hp]; simp [hv]

/-- the texts of the first k numbers with commas between them -/
def pre (zs : List Int) (k : Nat) : List UInt8 := Lib.join ((zs.take k).map Lib.itoa) [44]
/-- the text of a list -/
def lt (zs : List Int) : List UInt8 := if zs.length = 0 then [45] else pre zs zs.length
theorem join_snoc (sep : List UInt8) : ∀ (xs : List (List UInt8)) (x : List UInt8), xs ≠ [] → Lib.join (xs ++ [x]) sep = Lib.join xs sep ++ sep ++ x := by
  intro xs x h
  match xs, h with
  | y :: r, _ =>
    rw [List.cons_append, Lib.join_cons, Lib.join_cons]
    simp [Lib.joinTail, List.append_assoc]
theorem pre_zero (zs : List Int) : pre zs 0 = [] := rfl
theorem pre_one {zs : List Int} (h : 0 < zs.length) : pre zs 1 = Lib.itoa zs[0] := by
  unfold pre; rw [List.take_succ_eq_append_getElem h]; simp [Lib.join_one]
theorem pre_succ {zs : List Int} {k : Nat} (h : k < zs.length) (hk : 0 < k) : pre zs (k + 1) = pre zs k ++ [44] ++ Lib.itoa zs[k] := by
  unfold pre
  rw [List.take_succ_eq_append_getElem h, List.map_append, List.map_cons, List.map_nil, join_snoc]
  intro hc
  have := congrArg List.length hc
  rw [List.length_map, List.length_take] at this
  simp only [List.length_nil] at this; omega
theorem itoa_len {x : Int} (h1 : -9223372036854775808 ≤ x) (h2 : x ≤ 9223372036854775807) : (Lib.itoa x).length ≤ 20 := by
  rcases Int.lt_trichotomy x 0 with h | h | h
  · rw [itoa_neg h, List.length_cons]; have := dgs_bd h1 h2; omega
  · subst h; rw [itoa_zero]; decide
  · rw [itoa_pos h]; have := dgs_bd h1 h2; omega
theorem str_app (S : ByteArray) (l : List UInt8) : (S ++ ⟨l.toArray⟩ : ByteArray).data.toList = S.data.toList ++ l := by simp
theorem sz_mk (l : List UInt8) : (⟨l.toArray⟩ : ByteArray).size = l.length := by show l.toArray.size = _; simp
theorem bytes_eq {S : ByteArray} {l : List UInt8} (h : S.data.toList = l) : S = ⟨l.toArray⟩ := by rw [← h]

/-- what ListText answers -/
def ltext (zs : List Int) : List UInt8 := if fitB zs = true then lt zs else []
theorem fit_len {zs : List Int} (h : fitB zs = true) : zs.length ≤ 64 := by
  unfold fitB at h; rw [Bool.and_eq_true] at h; simpa using h.2
theorem fit_bd {zs : List Int} (h : fitB zs = true) : ∀ x ∈ zs, -9223372036854775808 ≤ x ∧ x ≤ 9223372036854775807 := by
  intro x hx
  unfold fitB at h; rw [Bool.and_eq_true, List.all_eq_true] at h
  have := okV_bd (h.1 x hx)
  omega
theorem ownsRow_belowAll {B : Nat} {w w1 : World} {e : TypeId} {size : Nat} {v : Value} {n : Nat} {xs : List Value} (h : w.ownsRow B e size v n xs) (hb : Below w.heap.size w w1) : w1.ownsRow B e size v n xs := by
  refine ⟨h.1, ?_⟩
  rcases h.2 with h' | ⟨g, cap, cur, hv, hB, hg, rest⟩
  · exact Or.inl h'
  · have hlt : g < w.heap.size := (Array.getElem?_eq_some_iff.1 hg).1
    exact Or.inr ⟨g, cap, cur, hv, hB, (hb.block g hlt).trans hg, rest⟩
/-- texts as cells -/
def tv (l : List ByteArray) : List Value := l.map Value.string
/-- the texts of the first k numbers -/
def its (zs : List Int) (k : Nat) : List ByteArray := (zs.take k).map fun x => ⟨(Lib.itoa x).toArray⟩
theorem its_snoc {zs : List Int} {k : Nat} (h : k < zs.length) : its zs (k + 1) = its zs k ++ [⟨(Lib.itoa zs[k]).toArray⟩] := by
  unfold its; rw [List.take_succ_eq_append_getElem h, List.map_append]; rfl
theorem its_length {zs : List Int} {k : Nat} (h : k ≤ zs.length) : (its zs k).length = k := by unfold its; simp; omega
theorem info_str : (Tryd.prog.info? 9).map (fun i => (i.zero, i.size, i.bytes)) = some (some (.string ⟨#[]⟩), 1, 16) := by kernel_rfl
theorem one_str (s : ByteArray) : ∀ u ∈ [Value.string s], u.oneCell' = true := by intro u hu; simp at hu; subst hu; rfl

theorem pre_its (zs : List Int) (k : Nat) : Lib.join ((its zs k).map (·.data.toList)) [44] = pre zs k := by
  unfold pre its
  rw [List.map_map]
  congr 1
theorem pre_len {zs : List Int} (hf : ∀ x ∈ zs, -9223372036854775808 ≤ x ∧ x ≤ 9223372036854775807) : ∀ k, k ≤ zs.length → (pre zs k).length ≤ 21 * k := by
  intro k
  induction k with
  | zero => intro _; rw [pre_zero]; simp
  | succ k ih =>
    intro hk
    obtain ⟨b1, b2⟩ := hf zs[k] (List.getElem_mem hk)
    have := itoa_len b1 b2
    have := ih (by omega)
    rcases Nat.eq_zero_or_pos k with h | h
    · subst h; rw [pre_one hk]; omega
    · rw [pre_succ hk h]; simp only [List.length_append, List.length_cons, List.length_nil]; omega
theorem own_cap {B : Nat} {w : World} {g cap n : Nat} {xs : List Value} {e : TypeId} {size : Nat} (h : w.ownsRow B e size (.slice (some ⟨g, 0, none⟩) n cap) n xs) : n ≤ cap := by
  rcases h.2 with ⟨h', _⟩ | ⟨g', cap', cur, h', _, _, hn, _⟩
  · simp at h'
  · simp only [Value.slice.injEq] at h'
    omega

end Go.Proofs.YtjogppgddjfejaaDoor

/-
  The forms of chapter 5: which rule applies, the greatest gradient, a profile with the forms of its temperatures; by the program. Its condition: impl.formRules holds what the program's text lays.
-/
import Derived.Test.YtbdhdlgenfpjgaaDoorGRow
import Derived.Test.YtbdhdlgenfpjgaaDoorStep
import Derived.Test.YtbdhdlgenfpjgaaDoorHrE
import Derived.Test.YtbdhdlgenfpjgaaDoorHrD
import Derived.Test.YtbdhdlgenfpjgaaDoorHrS
namespace Go.Proofs.YtbdhdlgenfpjgaaDoor
open Go.RowKit Go.Shelf
set_option linter.unusedVariables false
set_option maxRecDepth 100000

namespace La
def apl (fr gr a : Int) (x : Lay) (g : Int) : Bool := decide (gr ≤ g) && decide (a ≤ x.ag) && (decide (fr = 0) || decide (fr = x.fo))
theorem apl_iff {fr gr a : Int} {x : Lay} {g : Int} : apl fr gr a x g = true ↔ gr ≤ g ∧ a ≤ x.ag ∧ (fr = 0 ∨ fr = x.fo) := by unfold apl; simp [and_assoc]
theorem apl_no {fr gr a : Int} {x : Lay} {g : Int} : apl fr gr a x g = false ↔ ¬ (gr ≤ g ∧ a ≤ x.ag ∧ (fr = 0 ∨ fr = x.fo)) := by rw [← apl_iff]; cases apl fr gr a x g <;> simp
def ra (i : Nat) (x : Lay) (g : Int) : Bool := match i with
  | 0 => apl 0 2000 72 x g
  | 1 => apl 0 1000 24 x g
  | 2 => apl 1 0 48 x g
  | _ => apl 2 0 120 x g
def rf (i : Nat) : Int := match i with
  | 0 => 5
  | 1 => 4
  | 2 => 2
  | _ => 3
theorem frm_melt {x : Lay} {g : Int} (h : 0 < x.wa ∨ x.fo = 6) : frm x g = 6 := by
  unfold frm
  rcases h with h | h
  · rw [if_pos h]
  · by_cases hw : 0 < x.wa
    · rw [if_pos hw]
    · rw [if_neg hw, if_pos h]
theorem frm_rule {x : Lay} {g : Int} (h1 : ¬ 0 < x.wa) (h2 : ¬ x.fo = 6) (h0 : 0 ≤ g) {i : Nat} (hi : i < 4) (hn : ∀ j, j < i → ra j x g = false) (hy : ra i x g = true) : frm x g = rf i := by
  unfold frm
  rw [if_neg h1, if_neg h2]
  rcases i with _ | _ | _ | _ | i
  · have := apl_iff.1 hy
    rw [if_pos ⟨this.1, this.2.1⟩]; rfl
  · have a0 := apl_no.1 (hn 0 (by omega))
    have := apl_iff.1 hy
    rw [if_neg (by omega), if_pos ⟨this.1, this.2.1⟩]; rfl
  · have a0 := apl_no.1 (hn 0 (by omega))
    have a1 := apl_no.1 (hn 1 (by omega))
    have := apl_iff.1 hy
    rw [if_neg (by omega), if_neg (by omega), if_pos (by omega)]; rfl
  · have a0 := apl_no.1 (hn 0 (by omega))
    have a1 := apl_no.1 (hn 1 (by omega))
    have a2 := apl_no.1 (hn 2 (by omega))
    have := apl_iff.1 hy
    rw [if_neg (by omega), if_neg (by omega), if_neg (by omega), if_pos (by omega)]; rfl
  · omega
theorem frm_none {x : Lay} {g : Int} (h1 : ¬ 0 < x.wa) (h2 : ¬ x.fo = 6) (h0 : 0 ≤ g) (hn : ∀ j, j < 4 → ra j x g = false) : frm x g = x.fo := by
  unfold frm
  have a0 := apl_no.1 (hn 0 (by omega))
  have a1 := apl_no.1 (hn 1 (by omega))
  have a2 := apl_no.1 (hn 2 (by omega))
  have a3 := apl_no.1 (hn 3 (by omega))
  rw [if_neg h1, if_neg h2, if_neg (by omega), if_neg (by omega), if_neg (by omega), if_neg (by omega)]
theorem stp_bd {xs : List Lay} (h : okP xs = true) {k : Nat} (hk : k < xs.length) : 0 ≤ stp xs k ∧ stp xs k ≤ 4000001 := by
  have := low_bd h hk; have := upp_bd h hk
  unfold stp; omega
theorem lfm_eq {xs : List Lay} {k : Nat} (hk : k < xs.length) {f : Int} (h : frm xs[k] (stp xs k) = f) : lfm xs k = ⟨f, xs[k].ic, xs[k].wa, xs[k].de, xs[k].dg, xs[k].ha, xs[k].ag⟩ := by
  unfold lfm
  rw [nth_eq hk, h]
theorem fwd_len {xs : List Lay} {k : Nat} (hk : k < xs.length) : k < ((chf xs).take k ++ xs.drop k).length := by
  have := chf_len xs
  simp; omega
theorem fwd_get {xs : List Lay} {k : Nat} (hk : k < xs.length) (h' : k < ((chf xs).take k ++ xs.drop k).length) : ((chf xs).take k ++ xs.drop k)[k] = xs[k] := by
  have e := chf_len xs
  rw [List.getElem_append_right (by rw [List.length_take]; omega)]
  simp [List.length_take, Nat.min_eq_left (show k ≤ (chf xs).length by omega)]
theorem fwd_set {xs : List Lay} {k : Nat} (hk : k < xs.length) : ((chf xs).take k ++ xs.drop k).set k (lfm xs k) = (chf xs).take (k + 1) ++ xs.drop (k + 1) := by
  have e := chf_len xs
  have e2 : ((chf xs).take k).length = k := by simp; omega
  rw [chf_at hk, List.set_append_right _ _ (by omega), e2, Nat.sub_self, List.drop_eq_getElem_cons hk, List.append_assoc]; rfl
theorem fwd_same {xs : List Lay} {k : Nat} (hk : k < xs.length) (h : lfm xs k = xs[k]) : (chf xs).take k ++ xs.drop k = (chf xs).take (k + 1) ++ xs.drop (k + 1) := by
  rw [chf_at hk, h, List.drop_eq_getElem_cons hk, List.append_assoc]; rfl
end La
def Rules (w : World) : Prop := ∀ (i : Nat) (r : List Int), [[5, 0, 2000, 72], [4, 0, 1000, 24], [2, 1, 0, 48], [3, 2, 0, 120]][i]? = some r → ∀ (j : Nat) (z : Int), r[j]? = some z → w.cell? ⟨0, i * 4 + j, none⟩ = some (.int .i64 z)
theorem Rules.cells {w : World} (h : Rules w) :
    (w.cell? ⟨0, 0, none⟩ = some (.int .i64 5) ∧ w.cell? ⟨0, 1, none⟩ = some (.int .i64 0) ∧ w.cell? ⟨0, 2, none⟩ = some (.int .i64 2000) ∧ w.cell? ⟨0, 3, none⟩ = some (.int .i64 72)) ∧
    (w.cell? ⟨0, 4, none⟩ = some (.int .i64 4) ∧ w.cell? ⟨0, 5, none⟩ = some (.int .i64 0) ∧ w.cell? ⟨0, 6, none⟩ = some (.int .i64 1000) ∧ w.cell? ⟨0, 7, none⟩ = some (.int .i64 24)) ∧
    (w.cell? ⟨0, 8, none⟩ = some (.int .i64 2) ∧ w.cell? ⟨0, 9, none⟩ = some (.int .i64 1) ∧ w.cell? ⟨0, 10, none⟩ = some (.int .i64 0) ∧ w.cell? ⟨0, 11, none⟩ = some (.int .i64 48)) ∧
    (w.cell? ⟨0, 12, none⟩ = some (.int .i64 3) ∧ w.cell? ⟨0, 13, none⟩ = some (.int .i64 2) ∧ w.cell? ⟨0, 14, none⟩ = some (.int .i64 0) ∧ w.cell? ⟨0, 15, none⟩ = some (.int .i64 120)) :=
  ⟨⟨h 0 _ rfl 0 _ rfl, h 0 _ rfl 1 _ rfl, h 0 _ rfl 2 _ rfl, h 0 _ rfl 3 _ rfl⟩, ⟨h 1 _ rfl 0 _ rfl, h 1 _ rfl 1 _ rfl, h 1 _ rfl 2 _ rfl, h 1 _ rfl 3 _ rfl⟩, ⟨h 2 _ rfl 0 _ rfl, h 2 _ rfl 1 _ rfl, h 2 _ rfl 2 _ rfl, h 2 _ rfl 3 _ rfl⟩, ⟨h 3 _ rfl 0 _ rfl, h 3 _ rfl 1 _ rfl, h 3 _ rfl 2 _ rfl, h 3 _ rfl 3 _ rfl⟩⟩
theorem Rules.below {w w1 : World} (h : Rules w) (hb : Below w.heap.size w w1) : Rules w1 := by
  intro i r hr j z hz
  have e := h i r hr j z hz
  exact (hb.cell (p := ⟨0, i * 4 + j, none⟩) (World.block_lt_of_cell? w _ e)).trans e
theorem gRules : Tryd.prog.globalNamed "loop.example/g01013/impl.formRules" = some 0 := by kernel_rfl
theorem tRules : (Tryd.prog.globals[0]?).map (·.type) = some 70 := by kernel_rfl
theorem rules_of {l : List (String × DataW Unit)} {w : World} (h : laidMet Tryd.prog l w) (hf : (l.filter fun x => x.1 == "loop.example/g01013/impl.formRules") = [("loop.example/g01013/impl.formRules", rowsData [[5, 0, 2000, 72], [4, 0, 1000, 24], [2, 1, 0, 48], [3, 2, 0, 120]])]) : Rules w := by
  have h' := laidMet.filter (fun x => x.1 == "loop.example/g01013/impl.formRules") h
  rw [hf] at h'
  exact rowsAt_of_head (rest := []) gRules tRules Tryd.underlying70 Tryd.underlying69 (by as_aux_lemma => kernel_rfl) (by as_aux_lemma => kernel_rfl) (by as_aux_lemma => kernel_rfl) Tryd.underlying2 h'
set_option maxHeartbeats 1600000 in
theorem appliesTo_any (f fr gr a : Int) (x : Lay) (g : Int) (w : World) :
    Calls Tryd.prog 61 #[.agg #[.int .i64 f, .int .i64 fr, .int .i64 gr, .int .i64 a], .agg #[.int .i64 x.fo, .int .i64 x.ic, .int .i64 x.wa, .int .i64 x.de, .int .i64 x.dg, .int .i64 x.ha, .int .i64 x.ag], .int .i64 g] w fun e w' => e = .returned (.bool (La.apl fr gr a x g)) ∧ Below w.heap.size w w' := by
  by_cases h1 : gr ≤ g
  · by_cases h2 : a ≤ x.ag
    · by_cases h3 : fr = 0
      · have hr : Hid (La.apl fr gr a x g = true) := Lib.hid (La.apl_iff.2 ⟨h1, h2, Or.inl h3⟩)
        subst h3
        go_enter Tryd.func61, Tryd.ntmps61
        go_wp2
        go_ret
        exact ⟨ret_bool hr.out.symm, ((Below.refl _ _).alloc (Nat.le_refl _) _).alloc (by simp) _⟩
      · have h3b : (fr == 0) = false := beq_eq_false_iff_ne.2 h3
        by_cases h4 : fr = x.fo
        · have hr : Hid (La.apl fr gr a x g = true) := Lib.hid (La.apl_iff.2 ⟨h1, h2, Or.inr h4⟩)
          have h4b : (fr == x.fo) = true := beq_iff_eq.2 h4
          clear h4
          go_enter Tryd.func61, Tryd.ntmps61
          go_wp2
          go_ret
          exact ⟨ret_bool hr.out.symm, ((Below.refl _ _).alloc (Nat.le_refl _) _).alloc (by simp) _⟩
        · have hr : Hid (La.apl fr gr a x g = false) := Lib.hid (La.apl_no.2 (by omega))
          have h4b : (fr == x.fo) = false := beq_eq_false_iff_ne.2 h4
          go_enter Tryd.func61, Tryd.ntmps61
          go_wp2
          go_ret
          exact ⟨ret_bool hr.out.symm, ((Below.refl _ _).alloc (Nat.le_refl _) _).alloc (by simp) _⟩
    · have hr : Hid (La.apl fr gr a x g = false) := Lib.hid (La.apl_no.2 (by omega))
      go_enter Tryd.func61, Tryd.ntmps61
      go_wp2
      go_ret
      exact ⟨ret_bool hr.out.symm, ((Below.refl _ _).alloc (Nat.le_refl _) _).alloc (by simp) _⟩
  · have hr : Hid (La.apl fr gr a x g = false) := Lib.hid (La.apl_no.2 (by omega))
    go_enter Tryd.func61, Tryd.ntmps61
    go_wp2
    go_ret
    exact ⟨ret_bool hr.out.symm, ((Below.refl _ _).alloc (Nat.le_refl _) _).alloc (by simp) _⟩
end Go.Proofs.YtbdhdlgenfpjgaaDoor

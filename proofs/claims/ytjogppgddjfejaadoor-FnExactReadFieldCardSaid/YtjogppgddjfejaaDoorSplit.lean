import Derived.Test.YtjogppgddjfejaaDoorBytes
import Derived.Lib.Strings
namespace Go.Proofs.YtjogppgddjfejaaDoor
open Go.RowKit
set_option linter.unusedVariables false

/-- the parts of a text between the bytes c -/
def spl (c : UInt8) : List UInt8 → List (List UInt8)
  | [] => [[]]
  | x :: r => if x = c then [] :: spl c r else match spl c r with | [] => [[x]] | p :: ps => (x :: p) :: ps
theorem spl_miss (c : UInt8) : ∀ p : List UInt8, c ∉ p → spl c p = [p]
  | [], _ => rfl
  | x :: p, h => by
    have hx : ¬ x = c := fun e => h (by rw [e]; simp)
    rw [spl, if_neg hx, spl_miss c p (fun hm => h (List.mem_cons_of_mem _ hm))]
theorem spl_hit (c : UInt8) (r : List UInt8) : ∀ p : List UInt8, c ∉ p → spl c (p ++ c :: r) = p :: spl c r
  | [], _ => by rw [List.nil_append, spl, if_pos rfl]
  | x :: p, h => by
    have hx : ¬ x = c := fun e => h (by rw [e]; simp)
    rw [List.cons_append, spl, if_neg hx, spl_hit c r p (fun hm => h (List.mem_cons_of_mem _ hm))]
theorem spl_ne (c : UInt8) : ∀ l : List UInt8, spl c l ≠ []
  | [] => by simp [spl]
  | x :: r => by
    rw [spl]; split
    · simp
    · split <;> simp
/-- texts as cells -/
def tvl (ls : List (List UInt8)) : List Value := ls.map fun b => Value.string ⟨b.toArray⟩
theorem tvl_snoc (ls : List (List UInt8)) (b : List UInt8) : tvl (ls ++ [b]) = tvl ls ++ [Value.string ⟨b.toArray⟩] := by unfold tvl; simp
theorem tvl_length (ls : List (List UInt8)) : (tvl ls).length = ls.length := by unfold tvl; simp
theorem info_strs : (Tryd.prog.info? 9).map (fun i => (i.zero, i.size, i.bytes)) = some (some (.string ⟨#[]⟩), 1, 16) := by kernel_rfl
theorem one_strs (s : ByteArray) : ∀ u ∈ [Value.string s], u.oneCell' = true := by intro u hu; simp at hu; subst hu; rfl
/-- slice value v is a row of the call's own (from block B on) that holds these texts -/
def Strs (B : Nat) (w : World) (v : Value) (ls : List (List UInt8)) : Prop := w.ownsRow B 9 1 v ls.length (tvl ls)
theorem ext_eq (s : ByteArray) (a b : Nat) : s.extract a b = ⟨((s.data.toList.drop a).take (b - a)).toArray⟩ := by
  have := Lib.extract_data s a b
  rw [← this]
theorem part_hit {s : ByteArray} {c : UInt8} {f i : Nat} (hfi : f ≤ i) (hi : i < s.size) (hc : s[i] = c) (hno : c ∉ (s.data.toList.drop f).take (i - f)) :
    spl c (s.data.toList.drop f) = (s.data.toList.drop f).take (i - f) :: spl c (s.data.toList.drop (i + 1)) := by
  have h1 : s.data.toList.drop f = (s.data.toList.drop f).take (i - f) ++ c :: s.data.toList.drop (i + 1) := by
    conv => lhs; rw [← List.take_append_drop (i - f) (s.data.toList.drop f)]
    congr 1
    rw [List.drop_drop, show f + (i - f) = i by omega, List.drop_eq_getElem_cons (by simpa using hi)]
    congr 1
  conv => lhs; rw [h1]
  exact spl_hit c _ _ hno
theorem part_no {s : ByteArray} {c : UInt8} {f i : Nat} (hfi : f ≤ i) (hi : i < s.size) (hc : s[i] ≠ c) (hno : c ∉ (s.data.toList.drop f).take (i - f)) : c ∉ (s.data.toList.drop f).take (i + 1 - f) := by
  have hl : i - f < (s.data.toList.drop f).length := by
    have : s.data.toList.length = s.size := by simp
    rw [List.length_drop]; omega
  rw [show i + 1 - f = i - f + 1 by omega, List.take_succ_eq_append_getElem hl]
  intro hm
  rcases List.mem_append.1 hm with h | h
  · exact hno h
  · simp only [List.mem_singleton, List.getElem_drop] at h
    apply hc
    rw [h]
    show s.data.toList[i]'_ = _
    congr 1; omega

set_option maxRecDepth 100000 in
set_option maxHeartbeats 3200000 in
theorem l01Split_any (s : ByteArray) (c : UInt8) (w : World) (hs : s.size ≤ 1048576) :
    Calls Tryd.prog 17 #[.string s, .int .u8 c.toNat] w fun e w' => ∃ v, e = .returned v ∧ Strs w.heap.size w' v (spl c s.data.toList) ∧ Below w.heap.size w w' := by
  obtain ⟨i0, hi, hz0, hz1, hz2⟩ := info_parts info_strs
  go_enter Tryd.func17, Tryd.ntmps17
  go_wp2
  go_loopw [5, 6, 7] (fun pv fv iv wr => ∃ (f i : Nat) (d : List (List UInt8)), f ≤ i ∧ i ≤ s.size ∧ d.length ≤ f ∧ fv = .int .i64 f ∧ iv = .int .i64 i ∧ Hid (Strs w.heap.size wr pv d) ∧ Hid (Below w.heap.size w wr) ∧ Hid (c ∉ (s.data.toList.drop f).take (i - f)) ∧ Hid (d ++ spl c (s.data.toList.drop f) = spl c s.data.toList)) (fun _ _ iv _ => s.size - (intOf iv).toNat)
  case atStart => exact ⟨0, 0, [], Nat.le_refl _, Nat.zero_le _, Nat.le_refl _, rfl, rfl, Lib.hid (World.ownsRow_lit _ _ _ (Nat.le_refl _) (by decide) (by decide)), Lib.hid ((Below.refl _ _).alloc (Nat.le_refl _) _), Lib.hid (by simp), Lib.hid rfl⟩
  case round =>
    obtain ⟨f, i, d, hfi, his, hdl, rfl, rfl, ho, hb, hno, heq⟩ := hrel
    have hbs := hb.out.size
    by_cases hlt : i < s.size
    · by_cases hc : s[i] = c
      · have ht : (((s[i].toNat : Nat) : Int) == (c.toNat : Int)) = true := by rw [hc]; exact beq_self_eq_true _
        have hph := Lib.hid (part_hit hfi hlt hc hno.out)
        have hex := Lib.hid (ext_eq s f i)
        clear hc
        go_wp2_with (at_builtin; refine wpList_append_own _ rfl _ _ 39 rfl w.heap.size 9 i0 (.string ⟨#[]⟩) 1 16 Tryd.underlying39 hi hz0 hz1 hz2 rfl (by decide) _ _ _ rfl (ho.out.alloc _) ⟨wr.heap.size, 0, none⟩ 1 1 [.string (s.extract f i)] rfl rfl (one_new _ _ _) (one_strs _) ?c3 ?c4 ?c5 ?_)
        case c3 => unfold maxLen; omega
        case c4 => omega
        case c5 => first | omega | (simp; omega)
        intro v' w1 hown' hgrow _
        have hnx : Hid (Strs w.heap.size w1 v' (d ++ [(s.data.toList.drop f).take (i - f)])) := Lib.hid (by
          unfold Strs; rw [tvl_snoc, ← hex.out, List.length_append]; exact hown')
        have hnb : Hid (Below w.heap.size w w1) := Lib.hid ((hb.out.alloc hbs _).grown hgrow (by simp; omega) (fun j hj => (ho.out.lt j hj).1))
        clear hown' hgrow ho hb
        go_wp2
        exact ⟨⟨i + 1, i + 1, d ++ [(s.data.toList.drop f).take (i - f)], Nat.le_refl _, by omega, by rw [List.length_append]; simp; omega, by go_num, by go_num, hnx, hnb, Lib.hid (by simp), Lib.hid (by rw [List.append_assoc, List.singleton_append, ← hph.out]; exact heq.out)⟩, by simp only [intOf]; omega⟩
      · have ht : (((s[i].toNat : Nat) : Int) == (c.toNat : Int)) = false := by
          rw [beq_eq_false_iff_ne]; intro h; exact hc (UInt8.toNat_inj.1 (by omega))
        have hn := Lib.hid (part_no hfi hlt hc hno.out)
        clear hc
        go_wp2
        exact ⟨⟨f, i + 1, d, by omega, by omega, hdl, rfl, by go_num, ho, hb, hn, heq⟩, by simp only [intOf]; omega⟩
    · have hie : i = s.size := by omega
      subst hie
      have hex := Lib.hid (ext_eq s f s.size)
      have hlast : Hid ((s.data.toList.drop f).take (s.size - f) = s.data.toList.drop f) := Lib.hid (List.take_of_length_le (by simp))
      have hall : Hid (d ++ [s.data.toList.drop f] = spl c s.data.toList) := Lib.hid (by
        have := hno.out
        rw [hlast.out] at this
        rw [← heq.out, spl_miss c _ this])
      go_wp2_with (at_builtin; refine wpList_append_own _ rfl _ _ 39 rfl w.heap.size 9 i0 (.string ⟨#[]⟩) 1 16 Tryd.underlying39 hi hz0 hz1 hz2 rfl (by decide) _ _ _ rfl (ho.out.alloc _) ⟨wr.heap.size, 0, none⟩ 1 1 [.string (s.extract f s.size)] rfl rfl (one_new _ _ _) (one_strs _) ?d3 ?d4 ?d5 ?_)
      case d3 => unfold maxLen; omega
      case d4 => omega
      case d5 => first | omega | (simp; omega)
      intro v' w1 hown' hgrow _
      have hnx : Hid (Strs w.heap.size w1 v' (spl c s.data.toList)) := Lib.hid (by
        unfold Strs; rw [← hall.out, tvl_snoc, List.length_append, ← hlast.out, ← hex.out]; exact hown')
      have hnb : Hid (Below w.heap.size w w1) := Lib.hid ((hb.out.alloc hbs _).grown hgrow (by simp; omega) (fun j hj => (ho.out.lt j hj).1))
      clear hown' hgrow ho hb
      go_wp2
      go_ret
      exact ⟨_, rfl, hnx.out, hnb.out⟩
end Go.Proofs.YtjogppgddjfejaaDoor

/-
  The cells of a slope and a direction as asked, by the model. No condition of its own.
-/
import Derived.Test.YthcmpalbhaefbaaDoorRlC
import Derived.Test.YthcmpalbhaefbaaDoorTrK
namespace Go.Proofs.YthcmpalbhaefbaaDoor
open Go.RowKit Go.Shelf Go.Deep
set_option linter.unusedVariables false
set_option maxRecDepth 100000
namespace Gw
/-- is a cell's steepest slope as asked? -/
def stB (r c s : Int) (zs : List Int) (lo hi : Int) (ks : List Int) (k : Nat) : Bool := !decide ((stp r c s zs k 8).1 < 0) && (Ar.inB lo (stp r c s zs k 8).2 hi && ks.any (fun x => x == (stp r c s zs k 8).1))
/-- the cells among the first n that are -/
def stF (p : Nat → Bool) (n : Nat) : List Int := ((List.range n).filter p).map (fun (k : Nat) => (k : Int))
theorem stF_yes {p : Nat → Bool} {n : Nat} (h : p n = true) : stF p (n + 1) = stF p n ++ [(n : Int)] := by unfold stF; rw [List.range_succ, List.filter_append, List.map_append]; simp [h]
theorem stF_no {p : Nat → Bool} {n : Nat} (h : p n = false) : stF p (n + 1) = stF p n := by unfold stF; rw [List.range_succ, List.filter_append, List.map_append]; simp [h]
theorem stF_len (p : Nat → Bool) (n : Nat) : (stF p n).length ≤ n := by
  unfold stF
  rw [List.length_map]
  have := List.length_filter_le p (List.range n)
  rwa [List.length_range] at this
theorem stF_congr {p q : Nat → Bool} {n : Nat} (h : ∀ k, k < n → p k = q k) : stF p n = stF q n := by
  unfold stF
  congr 1
  exact List.filter_congr (fun k hk => h k (List.mem_range.1 hk))
def bdB (lo hi : Int) : Bool := Ar.inB 0 lo 10000 && Ar.inB lo hi 10000
def scL (r c s : Int) (zs : List Int) (lo hi : Int) (ks : List Int) : List Int := if (ok r c s zs && (bdB lo hi && Rl.ri 0 7 ks)) = true then stF (stB r c s zs lo hi ks) zs.length else []
def scC (r c s : Int) (zs : List Int) (lo hi : Int) (ks : List Int) : Int := odC (ok r c s zs) (bdB lo hi) (Rl.ri 0 7 ks)
theorem scL_len {r c s : Int} {zs : List Int} (lo hi : Int) (ks : List Int) (h : zs.length ≤ 1048576) : (scL r c s zs lo hi ks).length ≤ 1048576 := by
  unfold scL; split
  · exact Nat.le_trans (stF_len _ _) h
  · simp
end Gw
set_option maxHeartbeats 1600000 in
theorem l00Has_any (w : World) (v : Value) (xs : List Int) (n : Int) (hv : Sl w v xs) (hl : xs.length ≤ 1048576) :
    Calls Tryd.prog 61 #[v, .int .i64 n] w fun e w' => e = .returned (.bool (xs.any (fun x => x == n))) ∧ Below w.heap.size w w' := by
  obtain ⟨a, cap, rfl⟩ := hv.form
  have HV := Lib.hid hv
  clear hv
  go_enter Tryd.func61, Tryd.ntmps61
  go_wp2
  go_loopw [5] (fun i wr => ∃ k : Nat, k ≤ xs.length ∧ i = .int .i64 (k : Int) ∧ Hid ((xs.take k).any (fun x => x == n) = false) ∧ Hid (Below w.heap.size w wr)) (fun i _ => xs.length - (intOf i).toNat)
  case atStart => exact ⟨0, Nat.zero_le _, rfl, Lib.hid rfl, Lib.hid (Below.refl _ _)⟩
  case round =>
    obtain ⟨k, hk, rfl, hr, hb⟩ := hrel
    by_cases hlt : k < xs.length
    · have hltz : (k : Int) < (xs.length : Int) := by omega
      obtain ⟨b, off, cap1, hn, hbl, hcc⟩ := (HV.out.below hb.out).atI hlt
      simp only [Value.slice.injEq] at hn
      obtain ⟨rfl, -, rfl⟩ := hn
      have c0 := hcc k hlt
      clear hcc
      by_cases he : xs[k] = n
      · have hy : Hid (xs.any (fun x => x == n) = true) := Lib.hid (List.any_eq_true.2 ⟨_, List.getElem_mem hlt, by rw [he]; exact beq_self_eq_true _⟩)
        have heb : (xs[k] == n) = true := beq_iff_eq.2 he
        clear he
        generalize xs[k] = x at *
        go_wp2_with fail
        go_ret
        exact ⟨ret_bool hy.out.symm, hb.out⟩
      · have heb : (xs[k] == n) = false := beq_eq_false_iff_ne.2 he
        have hy : Hid ((xs.take (k + 1)).any (fun x => x == n) = false) := Lib.hid (by rw [List.take_succ_eq_append_getElem hlt, List.any_append, hr.out]; simp [he])
        clear he
        generalize xs[k] = x at *
        go_wp2_with fail
        exact ⟨⟨k + 1, by omega, by go_num, hy, hb⟩, by simp only [intOf]; omega⟩
    · have hltz : ¬ (k : Int) < (xs.length : Int) := by omega
      have hn : Hid (xs.any (fun x => x == n) = false) := Lib.hid (by have := hr.out; rwa [List.take_of_length_le (by omega)] at this)
      go_wp2
      go_ret
      exact ⟨ret_bool hn.out.symm, hb.out⟩
end Go.Proofs.YthcmpalbhaefbaaDoor

/-
  slices.Index at int64: the first place of a number. No condition of its own.
-/
import Derived.Test.YtobcflcmlejajaaDoorGen
import Derived.Test.YtobcflcmlejajaaDoorIntG
namespace Go.Proofs.YtobcflcmlejajaaDoor
open Go.RowKit Go.Shelf
set_option linter.unusedVariables false
set_option maxRecDepth 100000

set_option maxHeartbeats 1600000 in
theorem indexS_any (f : Nat → Int) (b : Nat) (z : Int) (w : World) (v : Value) (zs : List Int) (hz : ∀ k (h : k < zs.length), zs[k] = f k) (hb : b < zs.length) (hzb : z = f b) (hfi : ∀ j, j < b → f j ≠ z) (hv : Sl w v zs) (hl : zs.length ≤ 1048576) :
    Calls Tryd.prog 57 #[v, .int .i64 z] w fun e w' => e = .returned (.int .i64 (b : Int)) ∧ Below w.heap.size w w' := by
  obtain ⟨a, cap, rfl⟩ := hv.form
  obtain ⟨b0, off, cap1, hn1, hbl, hcc⟩ : ∃ b0 off cap1, Value.slice a zs.length cap = .slice (some ⟨b0, off, none⟩) zs.length cap1 ∧ b0 < w.heap.size ∧ ∀ k, k < zs.length → w.cell? ⟨b0, off + k, none⟩ = some (.int .i64 (f k)) := by
    rcases hv with ⟨h0, _⟩ | ⟨b0, off, cap1, h1, h2, h3⟩
    · rw [h0] at hb; simp at hb
    · exact ⟨b0, off, cap1, h1, h2, fun k h => h3 k _ (by rw [List.getElem?_eq_getElem h, hz k h])⟩
  simp only [Value.slice.injEq] at hn1
  obtain ⟨rfl, -, rfl⟩ := hn1
  have HC := Lib.hid hcc
  have HF := Lib.hid hfi
  have HB := Lib.hid hzb
  clear hv hz hcc hfi hzb
  go_enter Tryd.func57, Tryd.ntmps57
  go_wp2
  go_loopw [8] (fun i wr => ∃ k : Nat, k ≤ b ∧ i = .int .i64 k ∧ ∃ q, wr = w.drewN q) (fun i _ => zs.length - (intOf i).toNat)
  case atStart => exact ⟨0, by omega, rfl, 0, rfl⟩
  case round =>
    obtain ⟨k, hk, rfl, q, rfl⟩ := hrel
    have hlt : (k : Int) < (zs.length : Int) := by omega
    have ck := HC.out k (by omega)
    by_cases hkb : k = b
    · subst hkb
      have e : (z == f k) = true := by rw [← HB.out]; simp
      generalize f k = y at *
      go_wp2
      go_ret
      exact ⟨rfl, below_drewW _ _⟩
    · have e : (z == f k) = false := by rw [beq_eq_false_iff_ne]; exact fun h => HF.out k (by omega) h.symm
      generalize f k = y at *
      go_wp2
      exact ⟨⟨k + 1, by omega, by go_num, _, rfl⟩, by simp only [intOf]; omega⟩
end Go.Proofs.YtobcflcmlejajaaDoor

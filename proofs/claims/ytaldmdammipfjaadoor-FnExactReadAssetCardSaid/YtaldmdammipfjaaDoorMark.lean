import Derived.Test.YtaldmdammipfjaaDoorSplit
import Derived.Lib.ItoaNum
import Derived.ShutString
namespace Go.Proofs.YtaldmdammipfjaaDoor
open Go.RowKit
set_option linter.unusedVariables false

/-- the digits of a number that is not 0, and none for 0 -/
def mdg (m : Nat) : List UInt8 := if m = 0 then [] else Lib.decDigits m
theorem mdg_step {m : Nat} (h : m ≠ 0) : mdg m = mdg (m / 10) ++ [UInt8.ofNat (48 + m % 10)] := by
  unfold mdg
  rw [if_neg h]
  by_cases h1 : m < 10
  · rw [if_pos (by omega), Lib.decDigits, dif_pos h1, Nat.mod_eq_of_lt h1]; rfl
  · rw [if_neg (by omega), Lib.decDigits, dif_neg h1]
theorem mdg_len (m : Nat) : ∀ k, m < 10 ^ k → (mdg m).length ≤ k := by
  intro k
  induction k generalizing m with
  | zero => intro h; have : m = 0 := by simp at h; omega
            subst this; simp [mdg]
  | succ k ih =>
    intro h
    by_cases hm : m = 0
    · subst hm; simp [mdg]
    · rw [mdg_step hm, List.length_append, List.length_singleton]
      have := ih (m / 10) (by rw [Nat.pow_succ] at h; omega)
      omega
/-- the text with which a law marks the place k -/
def mkT (k : Nat) : List UInt8 := 109 :: mdg k
theorem mkT_len {k : Nat} (h : k ≤ 1000000000) : (mkT k).length ≤ 12 := by
  unfold mkT; rw [List.length_cons]
  have := mdg_len k 11 (by omega)
  omega
theorem one_byte (w : World) (c : UInt8) :
    (convert 124 9 (.slice (some ⟨w.heap.size, 0, none⟩) 1 1)).run Tryd.prog (w.alloc (.cells #[.int .u8 (c.toNat : Int)] 5)) = .ok (.string ⟨#[c]⟩) (w.alloc (.cells #[.int .u8 (c.toNat : Int)] 5)) := by
  have := run_convert_bytes_arg (P := Tryd.prog) (w.alloc (.cells #[.int .u8 (c.toNat : Int)] 5)) 124 5 Tryd.underlying124 Tryd.underlying5 w.heap.size 0 1 1 [(c.toNat : Int)] rfl (fun i hi => by
    have h0 : i = 0 := by omega
    subst h0
    exact one_new w (.int .u8 (c.toNat : Int)) 5 0 _ rfl) 9 Tryd.underlying9
  rw [this]
  simp [strOfNums]

theorem dig_val (m : Nat) : ((UInt8.ofNat (48 + m % 10)).toNat : Int) = 48 + (m : Int) % 10 := by
  rw [UInt8.toNat_ofNat']; omega
set_option maxHeartbeats 1600000 in
theorem markText_any (n : Nat) (w : World) (h1 : 1 ≤ n) (h2 : n ≤ 1000000000) :
    Calls Tryd.prog 46 #[.int .i64 n] w fun e w' => e = .returned (.string ⟨(mkT n).toArray⟩) ∧ Below w.heap.size w w' := by
  have hlen := mdg_len n 11 (by omega)
  go_enter Tryd.func46, Tryd.ntmps46
  go_wp2
  go_loopw [0, 3] (fun x o wr => ∃ (m : Nat) (l : List UInt8), x = .int .i64 m ∧ o = .string ⟨l.toArray⟩ ∧ m ≤ 1000000000 ∧ Hid (mdg m ++ l = mdg n) ∧ Hid (Below w.heap.size w wr)) (fun x _ _ => (intOf x).toNat)
  case atStart => exact ⟨n, [], rfl, rfl, h2, Lib.hid (by simp), Lib.hid (Below.refl _ _)⟩
  case round =>
    obtain ⟨m, l, rfl, rfl, hm, hd, hb⟩ := hrel
    have hl : l.length ≤ 11 := by have := congrArg List.length hd.out; rw [List.length_append] at this; omega
    by_cases h0 : 0 < m
    · have hcv := one_byte wr (UInt8.ofNat (48 + m % 10))
      rw [dig_val] at hcv
      have hn : Hid (mdg (m / 10) ++ ([UInt8.ofNat (48 + m % 10)] ++ l) = mdg n) := Lib.hid (by rw [← List.append_assoc, ← mdg_step (by omega)]; exact hd.out)
      have hs : wr.heap.size ≤ wr.heap.size := Nat.le_refl _
      have hnb : Hid (Below w.heap.size w (wr.alloc (.cells #[.int .u8 (48 + (m : Int) % 10)] 5))) := Lib.hid (hb.out.alloc hb.out.size _)
      clear hd hb
      generalize UInt8.ofNat (48 + m % 10) = c at *
      go_wp2
      exact ⟨⟨m / 10, [c] ++ l, by go_num, rfl, by omega, hn, hnb⟩, by simp only [intOf]; omega⟩
    · have hm0 : m = 0 := by omega
      have hf : Hid (l = mdg n) := Lib.hid (by have := hd.out; rw [hm0] at this; simpa [mdg] using this)
      clear hm0 hd
      go_wp2
      go_ret
      exact ⟨by rw [hf.out]; rfl, hb.out⟩
end Go.Proofs.YtaldmdammipfjaaDoor

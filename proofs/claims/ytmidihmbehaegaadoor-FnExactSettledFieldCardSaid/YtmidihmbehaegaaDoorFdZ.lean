/-
  By how much a step of drift has changed a mass at most (chapter 6), by the program. No condition of its own.
-/
import Derived.Test.YtmidihmbehaegaaDoorFdK
namespace Go.Proofs.YtmidihmbehaegaaDoor
open Go.RowKit Go.Shelf Go.Deep Go.Maps Go.WideShapes
set_option linter.unusedVariables false
set_option maxRecDepth 100000

set_option maxHeartbeats 800000 in
theorem distF_any (a b : Int) (h1 : -1000000000000000 ≤ a) (h2 : a ≤ 1000000000000000) (h3 : -1000000000000000 ≤ b) (h4 : b ≤ 1000000000000000) (w : World) :
    Calls Tryd.prog 61 #[.int .i64 a, .int .i64 b] w fun e w' => e = .returned (.int .i64 (max (a - b) (b - a))) ∧ w = w' := by
  go_enter Tryd.func61, Tryd.ntmps61
  go_wp2
  all_goals
    go_ret
    exact ⟨ret_int (by omega), rfl⟩
set_option maxHeartbeats 3200000 in
theorem greatest_any (B : Nat) (w : World) (p : Nat) (r c : Int) (n A ca X cb M : Nat) (ys bs : List Int) (m : DataW Unit) (q : Nat) (h : DR B w p r c n A ca X cb M ys bs m q) (hl : ys.length ≤ 64) (hm1 : Fw.okMs ys = true) (hm2 : Fw.okMs bs = true) :
    Calls Tryd.prog 48 #[.pointer (some ⟨p, 0, none⟩)] w fun e w' => e = .returned (.int .i64 (Fw.mc bs ys bs.length)) ∧ Below w.heap.size w w' := by
  have hnl := own_len h.row
  have hnb := own_len h.old
  have HD := Lib.hid h
  obtain ⟨x0, x1, x2, x3, x4⟩ := h.five
  clear h
  subst hnl
  go_enter Tryd.func48, Tryd.ntmps48
  go_wp2_with fail
  go_loopw [3, 4, 5, 11] (fun s3 _ _ i wr => ∃ k : Nat, k ≤ ys.length ∧ i = .int .i64 k ∧ s3 = .int .i64 (Fw.mc bs ys k) ∧ Hid (DR B wr p r c ys.length A ca X cb M ys bs m q) ∧ Hid (Below w.heap.size w wr)) (fun _ _ _ i _ => ys.length - (intOf i).toNat)
  case atStart => exact ⟨0, Nat.zero_le _, rfl, rfl, HD, Lib.hid (Below.refl _ _)⟩
  case round =>
    obtain ⟨k, hk, rfl, rfl, hd, hb⟩ := hrel
    by_cases hlt : k < ys.length
    · have hltz : (k : Int) < (ys.length : Int) := by omega
      obtain ⟨y0, y1, y2, y3, y4⟩ := hd.out.five
      have l1 := own_atD hd.out.old (k := k) (by omega)
      have l2 := own_atD hd.out.row hlt
      obtain ⟨a1, a2⟩ := Fw.okMs_getD hm1 k
      obtain ⟨b1, b2⟩ := Fw.okMs_getD hm2 k
      have CD := Lib.hid (fun W => distF_any (bs.getD k 0) (ys.getD k 0) (by omega) (by omega) (by omega) (by omega) W)
      have hn : Hid (max (Fw.mc bs ys k) (max (bs.getD k 0 - ys.getD k 0) (ys.getD k 0 - bs.getD k 0)) = Fw.mc bs ys (k + 1)) := Lib.hid rfl
      have HN := Lib.hid (fun W (h : Below wr.heap.size wr W) => hd.out.all h)
      have HBW := Lib.hid (fun W (h : Below wr.heap.size wr W) => bt hb.out h)
      generalize bs.getD k 0 = z1 at *
      generalize ys.getD k 0 = z2 at *
      generalize Fw.mc bs ys k = g at *
      generalize max (z1 - z2) (z2 - z1) = t at *
      clear hd hb
      go_wp2_with fail
      refine (CD.out _).mono ?_
      rintro e w' ⟨rfl, rfl⟩
      go_wp2_with fail
      exact ⟨⟨k + 1, by omega, by go_num, by rw [← hn.out]; congr 1; split <;> omega, Lib.hid (HN.out _ (Below.refl _ _)), Lib.hid (HBW.out _ (Below.refl _ _))⟩, by simp only [intOf]; omega⟩
    · have hltz : ¬ (k : Int) < (ys.length : Int) := by omega
      have hkn : Hid (Fw.mc bs ys k = Fw.mc bs ys bs.length) := Lib.hid (by rw [show k = bs.length by omega])
      go_wp2_with fail
      go_ret
      exact ⟨ret_int hkn.out, hb.out⟩
end Go.Proofs.YtmidihmbehaegaaDoor

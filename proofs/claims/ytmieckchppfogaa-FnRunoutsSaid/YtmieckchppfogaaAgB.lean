/-
  Tangents, the ground and the line, by the model (chapter 14). No condition of its own.
-/
import Derived.Test.YtmieckchppfogaaAgA
import Derived.Deep.QuietTactic
import Derived.BigQuiet
namespace Go.Proofs.Ytmieckchppfogaa
open Go.RowKit Go.Shelf
set_option linter.unusedVariables false
set_option maxRecDepth 100000

theorem wrap_in {x : Int} (h1 : -9000000000000000000 ≤ x) (h2 : x ≤ 9000000000000000000) : IntKind.i64.wrap x = x := IntWalk.i64_in _ ⟨by omega, by omega⟩
theorem below_q {w0 w : World} (h : Below w0.heap.size w0 w) (n : Nat) : Below w0.heap.size w0 (w.drewN n) := below_drewN h n
theorem specValidPath_any (w : World) (v : Value) (xs : List Pth) (hv : PpSl w v xs) (hl : xs.length ≤ 1048576) :
    Calls Try.prog 16 #[v] w fun e w' => e = .returned (.bool (An.okB xs)) ∧ Below w.heap.size w w' := by
  have C := Lib.hid (l14Ok_any w v xs hv hl)
  clear hv hl
  go_enter Try.func16, Try.ntmps16
  go_wp2_with fail
  refine C.out.mono ?_
  rintro e w1 ⟨rfl, b1⟩
  have B1 := Lib.hid b1
  clear b1
  go_wp2_with fail
  go_ret
  exact ⟨rfl, B1.out⟩
set_option maxHeartbeats 800000 in
theorem l14Tangent_any (w : World) (b off cap : Nat) (xs : List Pth) (P : PtAt w b off xs) (o : An.Ok xs) (k : Nat) (hk : k < xs.length) (h0 : 0 < k) :
    Calls Try.prog 54 #[.slice (some ⟨b, off, none⟩) xs.length cap, .int .i64 (k : Int)] w fun e w' => e = .returned (.int .i64 (An.tn xs k)) ∧ Below w.heap.size w w' := by
  obtain ⟨c0, c1⟩ := P k hk
  obtain ⟨z0, z1⟩ := P.zero (by omega)
  have f1 := o.dl k hk
  have f2 := o.dh k hk
  have f3 := o.hl k hk
  have f4 := o.hh k hk
  have f5 := o.h9 0 (by omega)
  have f6 := (An.tn_bd o hk h0).2.2
  have C := Lib.hid (fun W => l01Div_any (1000 * ((An.nd xs 0).he - (An.nd xs k).he)) (An.nd xs k).di W (by omega) (by omega) (by omega) (by omega) (Or.inr f6))
  have E : Hid (Ar.dr (1000 * ((An.nd xs 0).he - (An.nd xs k).he)) (An.nd xs k).di = An.tn xs k) := Lib.hid rfl
  have hz : (0 : Int) < (xs.length : Int) := by omega
  have hkz : (k : Int) < (xs.length : Int) := by omega
  clear P o
  generalize (An.nd xs 0).he = y0 at *
  generalize (An.nd xs k).he = yk at *
  generalize (An.nd xs k).di = dk at *
  clear hk h0
  go_enter Try.func54, Try.ntmps54
  go_wp2_with fail
  go_quiet ((go_at_call 86; exact Calls.quiet_of_same ((C.out _).mono fun _ _ ⟨h, h'⟩ => ⟨h, h'.symm⟩)))
  go_wp2_with fail
  go_ret
  exact ⟨ret_int E.out, below_drewW _ _⟩
set_option maxHeartbeats 800000 in
theorem l14Distance_any (w : World) (b off cap : Nat) (xs : List Pth) (d : Int) (P : PtAt w b off xs) (h2 : 2 ≤ xs.length) (hl : xs.length ≤ 1048576) :
    Calls Try.prog 58 #[.slice (some ⟨b, off, none⟩) xs.length cap, .int .i64 d] w fun e w' => e = .returned (.bool (An.al xs d)) ∧ Below w.heap.size w w' := by
  have c0 : w.cell? ⟨b, off + (xs.length - 1) * 2, none⟩ = some (.int .i64 (An.la xs)) := (P (xs.length - 1) (by omega)).1
  have m1 : IntKind.i64.wrap ((xs.length : Int) - 1) = (xs.length : Int) - 1 := wrap_in (by omega) (by omega)
  have m2 : (0 : Int) ≤ (xs.length : Int) - 1 := by omega
  have m3 : ((xs.length : Int) - 1).toNat = xs.length - 1 := by omega
  have C := Lib.hid (fun W => l00In_any d 0 (An.la xs) W)
  have E : Hid (Ar.inB 0 d (An.la xs) = An.al xs d) := Lib.hid rfl
  clear P
  generalize An.la xs = L at *
  go_enter Try.func58, Try.ntmps58
  go_wp2_with fail
  refine (C.out _).mono ?_
  rintro e w1 ⟨rfl, rfl⟩
  go_wp2_with fail
  go_ret
  exact ⟨ret_bool E.out, Below.refl _ _⟩
set_option maxHeartbeats 800000 in
theorem l14Between_any (w : World) (b off cap : Nat) (xs : List Pth) (P : PtAt w b off xs) (o : An.Ok xs) (k : Nat) (hk : k + 1 < xs.length) (d : Int) (h1 : -100000000 ≤ d) (h2 : d ≤ 100000000) :
    Calls Try.prog 72 #[.slice (some ⟨b, off, none⟩) xs.length cap, .int .i64 ((k + 1 : Nat) : Int), .int .i64 d] w fun e w' => e = .returned (.int .i64 (Ar.line (An.nd xs k).di (1000 * (An.nd xs k).he) (An.nd xs (k + 1)).di (1000 * (An.nd xs (k + 1)).he) d)) ∧ Below w.heap.size w w' := by
  obtain ⟨c0, c1⟩ := P k (by omega)
  obtain ⟨d0, d1⟩ := P (k + 1) hk
  have f1 := o.dl k (by omega)
  have f2 := o.dh k (by omega)
  have f3 := o.hl k (by omega)
  have f4 := o.h9 k (by omega)
  have g1 := o.dl (k + 1) hk
  have g2 := o.dh (k + 1) hk
  have g3 := o.hl (k + 1) hk
  have g4 := o.h9 (k + 1) hk
  have C := Lib.hid (fun W => l01Line_any (An.nd xs k).di (1000 * (An.nd xs k).he) (An.nd xs (k + 1)).di (1000 * (An.nd xs (k + 1)).he) d W (by omega) (by omega) (by omega) (by omega) (by omega) (by omega) (by omega) (by omega))
  have hkz : (k : Int) < (xs.length : Int) := by omega
  have n24 := o.n24
  have hk1 : ((k : Int) + 1) < (xs.length : Int) := by omega
  clear P o
  generalize (An.nd xs k).he = y0 at *
  generalize (An.nd xs k).di = x0 at *
  generalize (An.nd xs (k + 1)).he = y1 at *
  generalize (An.nd xs (k + 1)).di = x1 at *
  clear h1 h2
  go_enter Try.func72, Try.ntmps72
  go_wp2_with fail
  go_quiet ((go_at_call 98; exact Calls.quiet_of_same ((C.out _).mono fun _ _ ⟨h, h'⟩ => ⟨h, h'.symm⟩)))
  go_wp2_with fail
  go_ret
  exact ⟨rfl, below_drewW _ _⟩
set_option maxHeartbeats 1600000 in
theorem l14Ground_any (w : World) (b off cap : Nat) (xs : List Pth) (P : PtAt w b off xs) (o : An.Ok xs) (d : Int) (h0 : 0 ≤ d) (h1 : d ≤ An.la xs) :
    Calls Try.prog 59 #[.slice (some ⟨b, off, none⟩) xs.length cap, .int .i64 d] w fun e w' => e = .returned (.int .i64 (An.gr xs d)) ∧ Below w.heap.size w w' := by
  have hla := o.last
  have G := Lib.hid (An.gi_spec o h1)
  have C := Lib.hid (l14Between_any w b off cap xs P o (An.gi xs d) G.out.1 d (by omega) (by omega))
  have E : Hid (Ar.line (An.nd xs (An.gi xs d)).di (1000 * (An.nd xs (An.gi xs d)).he) (An.nd xs (An.gi xs d + 1)).di (1000 * (An.nd xs (An.gi xs d + 1)).he) d = An.gr xs d) := Lib.hid rfl
  rw [E.out] at C
  clear E
  have HP := Lib.hid P
  have n24 := o.n24
  clear P o h0 h1 hla
  go_enter Try.func59, Try.ntmps59
  go_wp2
  go_loop [5] (fun i => ∃ k : Nat, k ≤ An.gi xs d ∧ i = .int .i64 ((k + 1 : Nat) : Int)) (fun i => xs.length - (intOf i).toNat)
  case atStart => exact ⟨0, Nat.zero_le _, rfl⟩
  case round =>
    obtain ⟨k, hk, rfl⟩ := hrel
    have hlt : k + 1 < xs.length := by have := G.out.1; omega
    obtain ⟨c0, -⟩ := HP.out (k + 1) hlt
    have hz : ((k : Int) + 1) < (xs.length : Int) := by omega
    by_cases ht : (An.nd xs (k + 1)).di < d
    · have hk2 : k + 1 ≤ An.gi xs d := by
        rcases Nat.lt_or_ge k (An.gi xs d) with h | h
        · exact h
        · have : k = An.gi xs d := by omega
          have := G.out.2.1
          rw [← ‹k = An.gi xs d›] at this; omega
      generalize (An.nd xs (k + 1)).di = x1 at *
      go_wp2_with fail
      exact ⟨⟨k + 1, hk2, by go_num⟩, by simp only [intOf]; omega⟩
    · have hk2 : k = An.gi xs d := by
        rcases Nat.lt_or_ge k (An.gi xs d) with h | h
        · exact absurd (G.out.2.2 k h) ht
        · omega
      rw [← hk2] at C
      clear hk2 hk
      generalize (An.nd xs (k + 1)).di = x1 at *
      go_wp2_with fail
      refine C.out.mono ?_
      rintro e w1 ⟨rfl, b1⟩
      have B1 := Lib.hid b1
      clear b1
      go_wp2_with fail
      go_ret
      exact ⟨rfl, B1.out⟩
theorem l14Is_any (t : Int) (w : World) : Calls Try.prog 62 #[.int .i64 t] w fun e w' => e = .returned (.bool (An.tg t)) ∧ w = w' := by
  go_enter Try.func62, Try.ntmps62
  go_wp2_with (go_at_call 53; refine (l00In_any _ _ _ _).mono ?_; rintro e w' ⟨rfl, rfl⟩)
  go_ret
  exact ⟨rfl, rfl⟩
set_option maxHeartbeats 800000 in
theorem l14Line_any (w : World) (b off cap : Nat) (xs : List Pth) (P : PtAt w b off xs) (o : An.Ok xs) (t d : Int) (h1 : 0 ≤ t) (h2 : t ≤ 3000) (h3 : 0 ≤ d) (h4 : d ≤ 20000) :
    Calls Try.prog 63 #[.slice (some ⟨b, off, none⟩) xs.length cap, .int .i64 t, .int .i64 d] w fun e w' => e = .returned (.int .i64 (An.en xs t d)) ∧ w = w' := by
  have n2 := o.n2
  obtain ⟨z0, z1⟩ := P.zero (by omega)
  obtain ⟨e1, e2, e3, e4⟩ := An.en_bd o h1 h2 h3 h4
  have f3 := o.hl 0 (by omega)
  have f5 := o.h9 0 (by omega)
  have m1 : wrap64 (t * d) = t * d := IntWalk.wrap64_in _ ⟨by omega, by omega⟩
  have E : Hid (1000 * (An.nd xs 0).he - t * d = An.en xs t d) := Lib.hid rfl
  have hz : (0 : Int) < (xs.length : Int) := by omega
  clear P o h1 h2 h3 h4
  generalize An.en xs t d = v at *
  generalize (An.nd xs 0).he = y0 at *
  go_enter Try.func63, Try.ntmps63
  go_wp2_with fail
  go_ret
  exact ⟨ret_int E.out, rfl⟩
end Go.Proofs.Ytmieckchppfogaa

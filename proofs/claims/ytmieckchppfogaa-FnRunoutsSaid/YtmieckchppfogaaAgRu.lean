/-
  What the law on runouts wants to know: the tangent for a stop is just enough, and runouts are stops with their tangents (chapter 14). No condition of its own.
-/
import Derived.Test.YtmieckchppfogaaAgDr
import Derived.Test.YtmieckchppfogaaAgO
import Derived.Test.YtmieckchppfogaaAgQ
import Derived.Test.YtmieckchppfogaaAgL
import Derived.Test.YtmieckchppfogaaAgE
import Derived.Test.YtmieckchppfogaaB10
namespace Go.Proofs.Ytmieckchppfogaa
open Go.RowKit Go.Shelf
set_option linter.unusedVariables false
set_option maxRecDepth 100000

namespace An
def tC0 (xs : List Pth) (d : Int) : Int := Cd.cd (okB xs) (al xs d) (tC xs d 3)
def tV0 (xs : List Pth) (d : Int) : Int := Cd.vl (okB xs) (al xs d) (tV xs d)
def sC0 (xs : List Pth) (t : Int) : Int := Cd.cd (okB xs) (tg t) (sC xs t 3)
def sV0 (xs : List Pth) (t : Int) : Int := Cd.vl (okB xs) (tg t) (sV xs t)
theorem sB_t {xs : List Pth} {t d : Int} (h : sB xs t d = true) : st xs t < (la xs).toNat ∧ (st xs t : Int) + 1 ≤ d := by
  unfold sB at h
  simpa only [Bool.and_eq_true, decide_eq_true_eq] using h
theorem s_of {xs : List Pth} {t d : Int} (ho : okB xs = true) (ht : tg t = true) (h : sB xs t d = true) : sC0 xs t = 0 ∧ sV0 xs t = (st xs t : Int) + 1 ∧ (st xs t : Int) + 1 ≤ d := by
  obtain ⟨h1, h2⟩ := sB_t h
  unfold sC0 sV0
  rw [ho, ht, Cd.cd_t, Cd.vl_t]
  unfold sC sV
  rw [if_pos h1, if_pos h1]
  exact ⟨rfl, rfl, h2⟩
theorem s_no {xs : List Pth} {t d : Int} (ho : okB xs = true) (h : tg t = true → sB xs t d = false) (hc : sC0 xs t = 0) : d < sV0 xs t := by
  revert hc
  unfold sC0 sV0
  rw [ho]
  cases ht : tg t with
  | false => intro hc; rw [Cd.cd_tf] at hc; omega
  | true =>
    rw [Cd.cd_t, Cd.vl_t]
    unfold sC sV
    split
    · rename_i h1
      intro _
      have h2 := h ht
      unfold sB at h2
      rw [decide_eq_true h1, Bool.true_and] at h2
      have := of_decide_eq_false h2
      omega
    · intro hc; omega
theorem ru1 (xs : List Pth) (d : Int) : tC0 xs d ≠ 0 ∨ (tC0 xs d = 0 ∧ ∃ t s : Int, 1 ≤ t ∧ t ≤ 3000 ∧ tV0 xs d = t ∧ sC0 xs t = 0 ∧ sV0 xs t = s ∧ s ≤ d ∧ (sC0 xs (t - 1) = 0 → d < sV0 xs (t - 1)) ∧ (t < 3000 → sC0 xs (t + 1) = 0 ∧ sV0 xs (t + 1) ≤ s)) := by
  by_cases hc : tC0 xs d = 0
  · right
    refine ⟨hc, ?_⟩
    unfold tC0 at hc
    unfold tV0
    cases ho : okB xs with
    | false => rw [ho, Cd.cd_f] at hc; omega
    | true =>
      cases ha : al xs d with
      | false => rw [ho, ha, Cd.cd_tf] at hc; omega
      | true =>
        rw [ho, ha, Cd.cd_t] at hc
        unfold tC at hc
        have hf : tf xs d < 3000 := by
          rcases Nat.lt_or_ge (tf xs d) 3000 with h | h
          · exact h
          · rw [if_neg (by omega)] at hc; omega
        have hv : tV xs d = (tf xs d : Int) + 1 := by unfold tV; rw [if_pos hf]
        have hy : sB xs ((tf xs d : Int) + 1) d = true := fi_yes (p := fun i => sB xs ((i : Int) + 1) d) (n := 3000) hf
        have hn : ∀ i : Nat, i < tf xs d → sB xs ((i : Int) + 1) d = false := fun i hi => fi_no (p := fun i => sB xs ((i : Int) + 1) d) (n := 3000) hi
        have ht : tg ((tf xs d : Int) + 1) = true := Ar.inB_t (by omega) (by omega)
        obtain ⟨a1, a2, a3⟩ := s_of ho ht hy
        refine ⟨(tf xs d : Int) + 1, (st xs ((tf xs d : Int) + 1) : Int) + 1, by omega, by omega, by rw [Cd.vl_t, hv], a1, a2, a3, ?_, ?_⟩
        · intro h0
          refine s_no ho ?_ h0
          intro h1
          unfold tg at h1
          have h2 := inB_of h1
          have := hn (tf xs d - 1) (by omega)
          rwa [show (((tf xs d - 1 : Nat) : Int) + 1) = (tf xs d : Int) + 1 - 1 by omega] at this
        · intro h3
          obtain ⟨b1, b2, b3⟩ := s_of ho (t := (tf xs d : Int) + 1 + 1) (Ar.inB_t (by omega) (by omega)) (sB_steep (by omega) hy)
          have := st_steep (xs := xs) (t := (tf xs d : Int) + 1) (u := (tf xs d : Int) + 1 + 1) (by omega)
          exact ⟨b1, by rw [b2]; omega⟩
  · exact Or.inl hc
def lC0 (xs : List Pth) (a b : Int) : Int := Cd.cd (okB xs) (ab a b) (lC xs a b 3 6)
def lV0 (xs : List Pth) (a b : Int) : Int := Cd.vl (okB xs) (ab a b) (lV xs a b)
def rC0 (xs : List Pth) (a b : Int) : Int := Cd.cd (okB xs) (ab a b) (rC xs a b)
def rV0 (xs : List Pth) (a b : Int) : Int := Cd.vl (okB xs) (ab a b) (rV xs a b)
def bC0 (xs : List Pth) : Int := Cd.cd (okB xs) true (bC xs 3)
def bV0 (xs : List Pth) : Int := Cd.vl (okB xs) true (bV xs)
def kC0 (xs : List Pth) (k : Int) : Int := Cd.cd (okB xs) (kP xs k) 0
def kV0 (xs : List Pth) (k : Int) : Int := Cd.vl (okB xs) (kP xs k) (tn xs k.toNat)
theorem ru2 (xs : List Pth) (a b : Int) : (lC0 xs a b ≠ 0 ∧ lV0 xs a b = 0 ∧ rC0 xs a b = lC0 xs a b ∧ rV0 xs a b = 0) ∨
    (lC0 xs a b = 0 ∧ ∃ k be : Int, bC0 xs = 0 ∧ bV0 xs = k ∧ 1 ≤ k ∧ k + 1 < xs.length ∧ kC0 xs k = 0 ∧ kV0 xs k = be ∧ 0 ≤ a * be ∧ a * be ≤ 18000002000 ∧ 0 ≤ b ∧ b ≤ 1000 ∧ Ar.dr (a * be) 1000 - b = lV0 xs a b ∧ 0 ≤ Ar.dr (a * be) 1000 ∧ Ar.dr (a * be) 1000 ≤ 18000002001 ∧ sC0 xs (lV0 xs a b) = rC0 xs a b ∧ sV0 xs (lV0 xs a b) = rV0 xs a b) := by
  unfold lC0 lV0 rC0 rV0 bC0 bV0 kC0 kV0 sC0 sV0 lC lV rC rV
  cases ho : okB xs with
  | false => left; exact ⟨(by show (1 : Int) ≠ 0; decide), rfl, rfl, rfl⟩
  | true =>
    cases hab : ab a b with
    | false => left; exact ⟨(by show (2 : Int) ≠ 0; decide), rfl, rfl, rfl⟩
    | true =>
      cases hf : bF xs with
      | false => left; exact ⟨(by show (3 : Int) ≠ 0; decide), rfl, rfl, rfl⟩
      | true =>
        cases ht : tg (aV xs a b) with
        | false => left; exact ⟨(by show (6 : Int) ≠ 0; decide), rfl, rfl, rfl⟩
        | true =>
          right
          have hb := bt_at hf
          unfold ab at hab
          rw [Bool.and_eq_true] at hab
          have q1 := inB_of hab.1
          have q2 := inB_of hab.2
          obtain ⟨v1, v2, v3, v4, v5, v6⟩ := aV_bd (okB_ok ho) hf q1.1 q1.2 q2.1 q2.2
          have hk : kP xs ((bt0 xs : Int) + 1) = true := Ar.inB_t (by omega) (by omega)
          refine ⟨rfl, (bt0 xs : Int) + 1, tn xs (bt0 xs + 1), ?_, ?_, by omega, by omega, ?_, ?_, v1, v2, q2.1, q2.2, rfl, v3, v4, ?_, ?_⟩
          · rw [Cd.cd_t]; unfold bC; rw [if_pos hf]
          · rw [Cd.vl_t]; unfold bV; rw [if_pos hf]
          · rw [hk]; rfl
          · rw [hk, Cd.vl_t, show ((bt0 xs : Int) + 1).toNat = bt0 xs + 1 by omega]
          · simp only [if_true, Cd.vl_t, ht, Cd.cd_t]
          · simp only [if_true, Cd.vl_t, ht]
end An
theorem bsOfRow {w : World} {a : Option Addr} {len cap : Nat} {zs : List Int}
    (h : (a = none ∧ len = 0 ∧ cap = 0 ∧ zs = []) ∨ ∃ x, a = some x ∧ len ≤ cap ∧ cap ≤ maxLen ∧ zs.length = cap ∧ (∀ i, i < zs.length → w.cell? (x.add i) = some (.int .u8 (zs.getD i 0))) ∧ ∀ n ∈ zs, (Lit.int .u8 n).wf = true) :
    Bs w.heap.size w (.slice a len cap) len := by
  rcases h with ⟨rfl, rfl, rfl, rfl⟩ | ⟨x, rfl, hl, hm, hz, hc, hw⟩
  · exact Or.inl ⟨rfl, _, _, rfl⟩
  · rcases Nat.eq_zero_or_pos len with h0 | h0
    · subst h0; exact Or.inl ⟨rfl, _, _, rfl⟩
    · obtain ⟨b, off, rfl, hc'⟩ := ints_at hc (by omega)
      have c0 := hc' 0 (by omega)
      refine Or.inr ⟨b, off, cap, rfl, World.block_lt_of_cell? w _ c0, fun j hj => ?_⟩
      have hr := range_u8 hw j
      refine ⟨zs[j]?.getD 0, hr.1, hr.2, ?_⟩
      rw [hc' j (by omega), List.getD_eq_getElem?_getD]
set_option maxHeartbeats 800000 in
theorem b10Div_pos (x : Int) (w : World) (h0 : 0 ≤ x) (h1 : x ≤ 18000002000) :
    Calls Try.prog 43 #[.int .i64 x, .int .i64 1000] w fun e w' => e = .returned (.int .i64 (Ar.dr x 1000)) ∧ w = w' := by
  have hd : Hid ((2 * x + 1000) / 2000 = Ar.dr x 1000) := Lib.hid (by unfold Ar.dr; rw [if_neg (by omega)]; unfold Ar.drp; rw [if_neg (by omega)]; rfl)
  have hn : ¬ x < 0 := by omega
  rw [← hd.out]
  have ht : (2 * x + 1000).tdiv 2000 = (2 * x + 1000) / 2000 := Int.tdiv_eq_ediv_of_nonneg (by omega)
  go_enter Try.func43, Try.ntmps43
  go_wp2
  go_ret
  exact ⟨rfl, rfl⟩
theorem ruT (w : World) (v : Value) (xs : List Pth) (d : Int) (ho : PpAt w v xs) (hl : xs.length ≤ 25) :
    Calls Try.prog 33 #[v, .int .i64 d] w fun e w' => e = .returned (.tuple #[.int .i64 (An.tV0 xs d), .int .i64 (An.tC0 xs d)]) ∧ Below w.heap.size w w' := implTangentFor_any w v xs d ho (by omega)
theorem ruS (w : World) (v : Value) (xs : List Pth) (t : Int) (ho : PpAt w v xs) (hl : xs.length ≤ 25) :
    Calls Try.prog 27 #[v, .int .i64 t] w fun e w' => e = .returned (.tuple #[.int .i64 (An.sV0 xs t), .int .i64 (An.sC0 xs t)]) ∧ Below w.heap.size w w' := implStopOf_any w v xs t ho (by omega)
theorem ruR (w : World) (v : Value) (xs : List Pth) (a b : Int) (ho : PpAt w v xs) (hl : xs.length ≤ 25) :
    Calls Try.prog 39 #[v, .int .i64 a, .int .i64 b] w fun e w' => e = .returned (.tuple #[.int .i64 (An.rV0 xs a b), .int .i64 (An.rC0 xs a b)]) ∧ Below w.heap.size w w' := implRunoutOf_any w v xs a b ho (by omega)
theorem ruA (w : World) (v : Value) (xs : List Pth) (a b : Int) (ho : PpAt w v xs) (hl : xs.length ≤ 25) :
    Calls Try.prog 37 #[v, .int .i64 a, .int .i64 b] w fun e w' => e = .returned (.tuple #[.int .i64 (An.lV0 xs a b), .int .i64 (An.lC0 xs a b)]) ∧ Below w.heap.size w w' := implAlphaOf_any w v xs a b ho (by omega)
theorem ruB (w : World) (v : Value) (xs : List Pth) (ho : PpAt w v xs) (hl : xs.length ≤ 25) :
    Calls Try.prog 35 #[v] w fun e w' => e = .returned (.tuple #[.int .i64 (An.bV0 xs), .int .i64 (An.bC0 xs)]) ∧ Below w.heap.size w w' := implBetaPoint_any w v xs ho (by omega)
theorem ruK (w : World) (v : Value) (xs : List Pth) (k : Int) (ho : PpAt w v xs) (hl : xs.length ≤ 25) :
    Calls Try.prog 20 #[v, .int .i64 k] w fun e w' => e = .returned (.tuple #[.int .i64 (An.kV0 xs k), .int .i64 (An.kC0 xs k)]) ∧ Below w.heap.size w w' := specTangentOf_any w v xs k ho.sl (by omega)
end Go.Proofs.Ytmieckchppfogaa

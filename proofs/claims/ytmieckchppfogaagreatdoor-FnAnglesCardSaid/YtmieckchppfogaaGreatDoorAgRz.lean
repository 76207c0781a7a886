/-
  Bytes that came in; what the laws choose out of them. No condition of its own.
  Are bytes too many for a law to look at them? No condition of its own.
  Tangents that the model draws, and what it draws for the law on lines and angles (chapter 14). No condition but the bytes' number.
  What the law on lines and angles wants to know: where a mass stops, how fast it is, that a path's text is read back, that tangents are quotients (chapter 14). No condition of its own.
-/
import Derived.Test.YtmieckchppfogaaGreatDoorSrc
import Derived.Test.YtmieckchppfogaaGreatDoorAgDr
import Derived.Test.YtmieckchppfogaaGreatDoorAgW
import Derived.Test.YtmieckchppfogaaGreatDoorAgI
import Derived.Test.YtmieckchppfogaaGreatDoorAgL
import Derived.Test.YtmieckchppfogaaGreatDoorAgS
namespace Go.Proofs.YtmieckchppfogaaGreatDoor
open Go.RowKit
set_option linter.unusedVariables false

/-- bytes that came in, as the source reads them -/
theorem Bs.of_row {w : World} {a : Option Addr} {len cap : Nat} {zs : List Int}
    (h : (a = none ∧ len = 0 ∧ cap = 0 ∧ zs = []) ∨ ∃ x, a = some x ∧ len ≤ cap ∧ cap ≤ maxLen ∧ zs.length = cap ∧ (∀ i, i < zs.length → w.cell? (x.add i) = some (.int .u8 (zs.getD i 0))) ∧ ∀ n ∈ zs, (Lit.int .u8 n).wf = true) :
    Bs w.heap.size w (.slice a len cap) len := by
  rcases h with ⟨rfl, rfl, rfl, rfl⟩ | ⟨x, rfl, hl, hm, hz, hc, hw⟩
  · exact Or.inl ⟨rfl, _, _, rfl⟩
  · rcases Nat.eq_zero_or_pos len with h0 | h0
    · subst h0; exact Or.inl ⟨rfl, _, _, rfl⟩
    · obtain ⟨b, off, rfl, hc'⟩ := ints_at hc (by omega)
      have c0 := hc' 0 (by omega)
      refine Or.inr ⟨b, off, cap, rfl, World.block_lt_of_cell? w _ c0, fun j hj => ?_⟩
      have hr := range_u8 hw j
      refine ⟨zs[j]?.getD 0, hr.1, hr.2, ?_⟩
      rw [hc' j (by omega), List.getD_eq_getElem?_getD]
theorem Bs.mono {B B' : Nat} {w : World} {v : Value} {n : Nat} (h : Bs B w v n) (hb : B ≤ B') : Bs B' w v n := by
  rcases h with h | ⟨b, off, cap, hv, hlt, hc⟩
  · exact Or.inl h
  · exact Or.inr ⟨b, off, cap, hv, Nat.lt_of_lt_of_le hlt hb, hc⟩
end Go.Proofs.YtmieckchppfogaaGreatDoor
namespace Go.Proofs.YtmieckchppfogaaGreatDoor
open Go.RowKit
set_option linter.unusedVariables false

theorem b10no (w : World) (a : Option Addr) (n cn : Nat) (h1 : n ≤ 1048576) :
    Calls Tryz.prog 4 #[.slice a n cn] w fun e w' => e = .returned (.bool false) ∧ w = w' := by
  have h3 : ¬ (1048576 : Int) < n := by omega
  go_enter Tryz.func4, Tryz.ntmps4
  go_wp2
  go_ret
  exact ⟨rfl, rfl⟩
theorem b10yes (w : World) (a : Option Addr) (n cn : Nat) (h1 : 1048576 < n) :
    Calls Tryz.prog 4 #[.slice a n cn] w fun e w' => e = .returned (.bool true) ∧ w = w' := by
  have h3 : (1048576 : Int) < n := by omega
  go_enter Tryz.func4, Tryz.ntmps4
  go_wp2
  go_ret
  exact ⟨rfl, rfl⟩
end Go.Proofs.YtmieckchppfogaaGreatDoor
namespace Go.Proofs.YtmieckchppfogaaGreatDoor
open Go.RowKit Go.Shelf
set_option linter.unusedVariables false
set_option maxRecDepth 100000

set_option maxHeartbeats 1600000 in
theorem l14DrawTangent_any (B g n k0 : Nat) (v : Value) (w0 w : World) (h : DR B g n v w0 k0 w) (hB : B ≤ g) (hk : k0 ≤ 900000) (hl : n ≤ 1048576) :
    Calls Tryz.prog 18 #[.pointer (some ⟨g, 0, none⟩)] w fun e w' => ∃ z : Int, e = .returned (.int .i64 z) ∧ DR B g n v w0 (k0 + 2) w' ∧ KeepB g w w' := by
  have H0 := Lib.hid h
  clear h
  go_enter Tryz.func18, Tryz.ntmps18
  go_wp2_with fail
  refine (H0.out.one hB (by omega) hl 9 (by omega) (by omega)).mono ?_
  rintro e w1 ⟨b, rfl, D1, K1⟩
  have E1 := Lib.hid D1
  have L1 := Lib.hid K1
  clear D1 K1
  cases b with
  | true =>
    go_wp2_with fail
    refine (E1.out.among hB (by omega) hl [0, 1, 3000, 3001] (by decide) (by decide) 2).mono ?_
    rintro e w2 ⟨z, rfl, -, D2, K2⟩
    have E2 := Lib.hid D2
    have L2 := Lib.hid (keepB_trans L1.out K2)
    clear D2 K2
    go_wp2_with fail
    go_ret
    exact ⟨z, rfl, E2.out, L2.out⟩
  | false =>
    go_wp2_with fail
    refine (E1.out.pick hB (by omega) hl 60 (by omega) (by omega)).mono ?_
    rintro e w2 ⟨z, rfl, z0, z1, D2, K2⟩
    have E2 := Lib.hid D2
    have L2 := Lib.hid (keepB_trans L1.out K2)
    clear D2 K2
    go_wp2_with fail
    go_ret
    exact ⟨_, rfl, E2.out, L2.out⟩
set_option maxHeartbeats 3200000 in
theorem drawStopOf_any (w : World) (v : Value) (n : Nat) (hv : Bs w.heap.size w v n) (hl : n ≤ 1048576) :
    Calls Tryz.prog 5 #[v] w fun e w' => ∃ (u : Value) (z : Int), e = .returned (.tuple #[u, .int .i64 z]) ∧ (∃ xs, xs.length ≤ 25 ∧ PpAt w' u xs) ∧ Below w.heap.size w w' := by
  obtain ⟨a, cap, rfl⟩ := hv.form
  have HV := Lib.hid hv
  clear hv
  go_enter Tryz.func5, Tryz.ntmps5
  go_wp2_with fail
  refine (l00From_any a n cap _).mono ?_
  rintro e w1 ⟨rfl, S1, b1⟩
  have E1 : Hid (DR w.heap.size w.heap.size n (.slice a n cap) w1 0 w1) := Lib.hid ⟨0, 0, Nat.le_refl _, S1, HV.out.below b1, Below.refl _ _, KeepB.refl _ _⟩
  have B1 := Lib.hid b1
  have s1 : w.heap.size < w1.heap.size := S1.lt
  clear b1 S1 HV
  go_wp2_with fail
  refine (l14Draw_any _ _ _ _ _ _ _ E1.out (by omega) (by omega) hl).mono ?_
  rintro e w2 ⟨q, m, cp, rfl, hm, ⟨xs, O2⟩, D2, K2⟩
  have E2 := Lib.hid D2
  have R2 := Lib.hid O2
  clear D2 K2 O2 E1
  go_wp2_with fail
  refine (l14DrawTangent_any _ _ _ _ _ _ _ E2.out (by omega) (by omega) hl).mono ?_
  rintro e w3 ⟨z, rfl, D3, K3⟩
  have R3 : Hid (∃ xs, xs.length ≤ 25 ∧ PpAt w3 (.slice (some ⟨q, 0, none⟩) m cp) xs) := Lib.hid ⟨xs, by have := R2.out.1; omega, (R2.out.keep K3 s1).own⟩
  have B3 := Lib.hid (B1.out.trans D3.below)
  clear D3 K3 E2 R2 B1
  go_wp2_with fail
  go_ret2
  exact ⟨_, z, rfl, R3.out, B3.out⟩
set_option maxHeartbeats 3200000 in
theorem drawSpeedAt_any (w : World) (v : Value) (n : Nat) (hv : Bs w.heap.size w v n) (hl : n ≤ 1048576) :
    Calls Tryz.prog 15 #[v] w fun e w' => ∃ (u : Value) (a b : Int), e = .returned (.tuple #[u, .int .i64 a, .int .i64 b]) ∧ (∃ xs, xs.length ≤ 25 ∧ PpAt w' u xs) ∧ Below w.heap.size w w' := by
  obtain ⟨a, cap, rfl⟩ := hv.form
  have HV := Lib.hid hv
  clear hv
  go_enter Tryz.func15, Tryz.ntmps15
  go_wp2_with fail
  refine (l00From_any a n cap _).mono ?_
  rintro e w1 ⟨rfl, S1, b1⟩
  have E1 : Hid (DR w.heap.size w.heap.size n (.slice a n cap) w1 0 w1) := Lib.hid ⟨0, 0, Nat.le_refl _, S1, HV.out.below b1, Below.refl _ _, KeepB.refl _ _⟩
  have B1 := Lib.hid b1
  have s1 : w.heap.size < w1.heap.size := S1.lt
  clear b1 S1 HV
  go_wp2_with fail
  refine (l14Draw_any _ _ _ _ _ _ _ E1.out (by omega) (by omega) hl).mono ?_
  rintro e w2 ⟨q, m, cp, rfl, hm, ⟨xs, O2⟩, D2, K2⟩
  have E2 := Lib.hid D2
  have R2 := Lib.hid O2
  clear D2 K2 O2 E1
  go_wp2_with fail
  refine (l14DrawTangent_any _ _ _ _ _ _ _ E2.out (by omega) (by omega) hl).mono ?_
  rintro e w3 ⟨z, rfl, D3, K3⟩
  have E3 := Lib.hid D3
  have R3 := Lib.hid (R2.out.keep K3 s1)
  clear D3 K3 E2 R2
  go_wp2_with fail
  refine (l14DrawDistance_any _ _ _ _ _ q m cp xs _ _ _ E3.out (by omega) (by omega) hl R3.out s1 hm).mono ?_
  rintro e w4 ⟨y, rfl, D4, K4⟩
  have R4 : Hid (∃ xs, xs.length ≤ 25 ∧ PpAt w4 (.slice (some ⟨q, 0, none⟩) m cp) xs) := Lib.hid ⟨xs, by have := R3.out.1; omega, (R3.out.keep K4 s1).own⟩
  have B4 := Lib.hid (B1.out.trans D4.below)
  clear D4 K4 E3 R3 B1
  go_wp2_with fail
  go_ret3
  exact ⟨_, z, y, rfl, R4.out, B4.out⟩
end Go.Proofs.YtmieckchppfogaaGreatDoor
namespace Go.Proofs.YtmieckchppfogaaGreatDoor
open Go.RowKit Go.Shelf
set_option linter.unusedVariables false
set_option maxRecDepth 100000

namespace An
theorem dr_near {a b : Int} (hb : 0 < b) : -b ≤ 2 * (a - Ar.dr a b * b) ∧ 2 * (a - Ar.dr a b * b) ≤ b := by
  have key : ∀ c : Int, 0 ≤ c → -b ≤ 2 * (c - (2 * c + b) / (2 * b) * b) ∧ 2 * (c - (2 * c + b) / (2 * b) * b) ≤ b := by
    intro c hc
    have e := Int.mul_ediv_add_emod (2 * c + b) (2 * b)
    have r0 := Int.emod_nonneg (2 * c + b) (b := 2 * b) (by omega)
    have r1 := Int.emod_lt_of_pos (2 * c + b) (b := 2 * b) (by omega)
    generalize (2 * c + b) / (2 * b) = q at *
    generalize (2 * c + b) % (2 * b) = r at *
    rw [Int.mul_assoc, Int.mul_comm b q] at e
    generalize q * b = p at *
    omega
  unfold Ar.dr Ar.drp
  rw [if_neg (by omega)]
  split
  · have := key (-a) (by omega)
    rw [show 2 * -a + b = b - 2 * a by omega] at this
    rw [Int.neg_mul]
    generalize (b - 2 * a) / (2 * b) * b = p at *
    omega
  · exact key a (by omega)
theorem sp_not_itoa (x : Int) : (32 : UInt8) ∉ Lib.itoa x := by
  have hd : ∀ u, (32 : UInt8) ∉ Lib.decDigits u := by
    intro u hm
    have := (Nu.val_dec u).2.1
    have := List.all_eq_true.1 this 32 hm
    revert this; decide
  unfold Lib.itoa
  split
  · intro hm
    rcases List.mem_cons.1 hm with h | h
    · revert h; decide
    · exact hd _ h
  · exact hd _
theorem co_not_itoa (x : Int) : (58 : UInt8) ∉ Lib.itoa x := by
  have hd : ∀ u, (58 : UInt8) ∉ Lib.decDigits u := by
    intro u hm
    have := (Nu.val_dec u).2.1
    have := List.all_eq_true.1 this 58 hm
    revert this; decide
  unfold Lib.itoa
  split
  · intro hm
    rcases List.mem_cons.1 hm with h | h
    · revert h; decide
    · exact hd _ h
  · exact hd _
theorem body_len {x : Int} (h1 : -1000000000000000000 < x) (h2 : x < 1000000000000000000) : (Nu.body (Lib.itoa x)).length ≤ 18 := by
  have hd : ∀ u : Nat, u < 1000000000000000000 → (Lib.decDigits u).length ≤ 18 := by
    intro u hu
    by_cases h : u = 0
    · subst h; rw [Lib.decDigits, dif_pos (by omega)]; simp
    · have := dgs_len u 18 (by omega)
      unfold dgs at this
      rwa [if_neg h] at this
  unfold Lib.itoa
  split
  · show (Lib.decDigits _).length ≤ 18
    exact hd _ (by omega)
  · have h3 := hd x.toNat (by omega)
    have h4 : (Nu.body (Lib.decDigits x.toNat)).length ≤ (Lib.decDigits x.toNat).length := by
      generalize Lib.decDigits x.toNat = d
      cases d with
      | nil => exact Nat.le_refl _
      | cons c r => unfold Nu.body; simp only; split <;> simp
    exact Nat.le_trans h4 h3
theorem rd_itoa {x : Int} (h1 : -1000000000000000000 < x) (h2 : x < 1000000000000000000) : Nu.rd (Lib.itoa x) = some x := Nu.rd_of rfl (body_len h1 h2)
theorem spl_join32 : ∀ xs : List (List UInt8), xs ≠ [] → (∀ p ∈ xs, (32 : UInt8) ∉ p) → spl 32 (Lib.join xs [32]) = xs
  | [x], _, h => by rw [Lib.join_one]; exact spl_miss 32 x (h x (by simp))
  | x :: y :: r, _, h => by
    have ih := spl_join32 (y :: r) (by simp) (fun p hp => h p (by simp [hp]))
    have e : Lib.join (x :: y :: r) [32] = x ++ 32 :: Lib.join (y :: r) [32] := by
      rw [Lib.join_cons, Lib.join_cons]
      simp [Lib.joinTail]
    rw [e, spl_hit 32 _ x (h x (by simp)), ih]
theorem rq_tx {x : Pth} (h1 : -1000000000000000000 < x.di) (h2 : x.di < 1000000000000000000) (h3 : -1000000000000000000 < x.he) (h4 : x.he < 1000000000000000000) : rq (tx x) = some x := by
  have e : tx x = Lib.itoa x.di ++ 58 :: Lib.itoa x.he := by unfold tx; simp
  have hc := cut_hit (c := 58) (p := Lib.itoa x.di) (r := Lib.itoa x.he) (co_not_itoa x.di)
  have ha : ca (tx x) = Lib.itoa x.di := by unfold ca; rw [e, hc]
  have hb : cb (tx x) = Lib.itoa x.he := by unfold cb; rw [e, hc]
  unfold rq
  rw [ha, hb, rd_itoa h1 h2, rd_itoa h3 h4]
theorem sp_not_tx (x : Pth) : (32 : UInt8) ∉ tx x := by
  unfold tx
  intro h
  rw [List.mem_append, List.mem_append] at h
  rcases h with (h | h) | h
  · exact sp_not_itoa _ h
  · revert h; decide
  · exact sp_not_itoa _ h
theorem mpq_tx : ∀ xs : List Pth, (∀ x ∈ xs, -1000000000000000000 < x.di ∧ x.di < 1000000000000000000 ∧ -1000000000000000000 < x.he ∧ x.he < 1000000000000000000) → mpq (xs.map tx) = some xs
  | [], _ => rfl
  | x :: xs, h => by
    obtain ⟨a, b, c, d⟩ := h x (by simp)
    rw [List.map_cons, mpq, rq_tx a b c d, mpq_tx xs (fun y hy => h y (by simp [hy]))]
/-- the text of a path that is valid is read back -/
theorem rp_ptx {xs : List Pth} (h : okB xs = true) : rp (ptx xs) = some xs := by
  have o := okB_ok h
  have n2 := o.n2
  have hb : ∀ x ∈ xs, -1000000000000000000 < x.di ∧ x.di < 1000000000000000000 ∧ -1000000000000000000 < x.he ∧ x.he < 1000000000000000000 := by
    intro x hx
    obtain ⟨k, hk, rfl⟩ := nd_mem hx
    have a := o.dl k hk
    have b := o.dh k hk
    have c := o.hl k hk
    have d := o.h9 k hk
    omega
  unfold ptx rp
  rw [if_pos h]
  unfold pt
  rw [List.take_length, spl_join32 (xs.map tx) (by intro e; rw [List.map_eq_nil_iff] at e; rw [e] at n2; simp at n2) (fun p hp => by
    obtain ⟨x, _, rfl⟩ := List.mem_map.1 hp
    exact sp_not_tx x), mpq_tx xs hb, vq_ok h]
theorem ptx_len {xs : List Pth} (h : okB xs = true) : (ptx xs).length ≤ 1008 := by
  have o := okB_ok h
  have n24 := o.n24
  have := pt_len o xs.length (Nat.le_refl _)
  unfold ptx
  rw [if_pos h]
  omega
/-- a question about a path and a tangent: refused, or the path is valid -/
theorem ra0 (xs : List Pth) (t : Int) : (Cd.cd (okB xs) (tg t) (sC xs t 3) ≠ 0 ∧ Cd.cd (okB xs) (tg t) 0 ≠ 0) ∨
    (okB xs = true ∧ tg t = true ∧ ((Cd.cd (okB xs) (tg t) (sC xs t 3) ≠ 0 ∧ Cd.cd (okB xs) (tg t) 0 = 0) ∨
      (Cd.cd (okB xs) (tg t) (sC xs t 3) = 0 ∧ Cd.cd (okB xs) (tg t) 0 = 0 ∧ Cd.vl (okB xs) (tg t) (sV xs t) = (st xs t : Int) + 1 ∧ st xs t < (la xs).toNat))) := by
  cases okB xs with
  | false => left; exact ⟨(by show (1 : Int) ≠ 0; decide), (by show (1 : Int) ≠ 0; decide)⟩
  | true =>
    cases tg t with
    | false => left; exact ⟨(by show (2 : Int) ≠ 0; decide), (by show (2 : Int) ≠ 0; decide)⟩
    | true =>
      right
      refine ⟨rfl, rfl, ?_⟩
      unfold sC sV
      by_cases h : st xs t < (la xs).toNat
      · right; rw [if_pos h, if_pos h]; exact ⟨rfl, rfl, rfl, h⟩
      · left; rw [if_neg h]; exact ⟨(by show (3 : Int) ≠ 0; decide), rfl⟩
theorem al_of {xs : List Pth} {d : Int} (h0 : 0 ≤ d) (h1 : d ≤ la xs) : al xs d = true := Ar.inB_t h0 h1
/-- how fast: never below nothing -/
theorem spd_nn {s : Int} (h0 : 0 ≤ s) : 0 ≤ spd s := by
  unfold spd rt
  exact Int.natCast_nonneg _
theorem vS_nn {xs : List Pth} (o : Ok xs) {t d : Int} (h0 : 0 ≤ d) (h1 : d ≤ la xs) : 0 ≤ vS xs t d := by
  unfold vS
  cases h : sB xs t d with
  | true => rw [if_pos rfl]; exact Int.le_refl _
  | false => rw [if_neg (by simp)]; exact spd_nn (hi_nn o h0 h1 h)
/-- where it is fastest: how fast -/
theorem vS_be {xs : List Pth} (o : Ok xs) {t : Int} : vS xs t (be xs t (st xs t) : Int) = spd (mo xs t (st xs t)) ∧ 0 ≤ spd (mo xs t (st xs t)) ∧ al xs (be xs t (st xs t) : Int) = true := by
  have hle := be_le xs t (st xs t)
  have hst := st_le xs t
  have hla : 0 ≤ la xs := o.dl (xs.length - 1) (by have := o.n2; omega)
  have hb : sB xs t (be xs t (st xs t) : Int) = false := by
    unfold sB
    rw [decide_eq_false (p := (st xs t : Int) + 1 ≤ (be xs t (st xs t) : Int)) (by omega), Bool.and_false]
  refine ⟨?_, spd_nn (mo_nn xs t _), al_of (by omega) (by omega)⟩
  unfold vS
  rw [hb, if_neg (by simp)]
  rcases be_spec xs t (st xs t) with ⟨h1, h2⟩ | ⟨h1, h2, h3, h4, -⟩
  · rw [h1, h2]
    show spd (hi xs t 0) = spd 0
    rw [hi_0 o]
  · rw [h4]
/-- where it stops: it is below, and has been above -/
theorem ra1 {xs : List Pth} (o : Ok xs) {t : Int} (hst : st xs t < (la xs).toNat) : al xs ((st xs t : Int) + 1) = true ∧ vS xs t ((st xs t : Int) + 1) = 0 ∧ en xs t ((st xs t : Int) + 1) ≤ gr xs ((st xs t : Int) + 1) ∧
    (be xs t (st xs t) : Int) < (st xs t : Int) + 1 ∧ al xs (st xs t : Int) = true ∧ (1 < (st xs t : Int) + 1 → gr xs (st xs t : Int) < en xs t (st xs t : Int)) := by
  have hle := be_le xs t (st xs t)
  have hy := st_yes hst
  refine ⟨al_of (by omega) (by omega), ?_, ?_, by omega, al_of (by omega) (by omega), fun h => ?_⟩
  · unfold vS
    rw [if_pos]
    unfold sB
    rw [decide_eq_true hst, decide_eq_true (Int.le_refl _)]; rfl
  · unfold hi at hy; omega
  · have := st_no (xs := xs) (t := t) (d := (st xs t : Int)) (by omega) (Int.le_refl _)
    unfold hi at this; omega
/-- the tangent to a point -/
theorem ra2 {xs : List Pth} (h : okB xs = true) {i : Nat} (hi : i < xs.length) (h0 : 0 < i) : kP xs (i : Int) = true ∧ al xs (nd xs i).di = true ∧ gr xs (nd xs i).di = 1000 * (nd xs i).he ∧
    -(nd xs i).di ≤ 2 * (tn xs i * (nd xs i).di - 1000 * ((nd xs 0).he - (nd xs i).he)) ∧ 2 * (tn xs i * (nd xs i).di - 1000 * ((nd xs 0).he - (nd xs i).he)) ≤ (nd xs i).di := by
  have o := okB_ok h
  obtain ⟨t1, t2, t3⟩ := tn_bd o hi h0
  have := dr_near (a := 1000 * ((nd xs 0).he - (nd xs i).he)) t3
  refine ⟨Ar.inB_t (by omega) (by omega), al_of (by omega) ?_, gr_pt o hi, ?_, ?_⟩
  · have n2 := o.n2
    unfold la
    rcases Nat.lt_or_ge i (xs.length - 1) with hl | hl
    · exact o.le (by omega) (by omega)
    · rw [show i = xs.length - 1 by omega]; exact Int.le_refl _
  · unfold tn; omega
  · unfold tn; omega
/-- SpeedAt alone -/
theorem ra3 (xs : List Pth) (t d : Int) : (Cd.cd (okB xs) (tg t && al xs d) 0 ≠ 0 ∧ Cd.vl (okB xs) (tg t && al xs d) (vS xs t d) = 0) ∨ (Cd.cd (okB xs) (tg t && al xs d) 0 = 0 ∧ 0 ≤ Cd.vl (okB xs) (tg t && al xs d) (vS xs t d)) := by
  cases ho : okB xs with
  | false => left; exact ⟨(by show (1 : Int) ≠ 0; decide), rfl⟩
  | true =>
    cases ht : tg t with
    | false => left; exact ⟨(by show (2 : Int) ≠ 0; decide), rfl⟩
    | true =>
      cases ha : al xs d with
      | false => left; exact ⟨(by show (2 : Int) ≠ 0; decide), rfl⟩
      | true =>
        right
        have := inB_of ha
        exact ⟨rfl, vS_nn (okB_ok ho) this.1 this.2⟩
end An
theorem PpAt.at2 {w : World} {q m cp : Nat} {xs : List Pth} (h : PpAt w (.slice (some ⟨q, 0, none⟩) m cp) xs) {k : Nat} (hk : k < xs.length) : w.cell? ⟨q, k * 2, none⟩ = some (.int .i64 (An.nd xs k).di) ∧ w.cell? ⟨q, k * 2 + 1, none⟩ = some (.int .i64 (An.nd xs k).he) := by
  obtain ⟨b, cap, hn, -, P⟩ := h.pts (by omega)
  simp only [Value.slice.injEq, Option.some.injEq, Addr.mk.injEq] at hn
  obtain ⟨⟨rfl, -, -⟩, -, -⟩ := hn
  have := P k hk
  rwa [Nat.zero_add] at this
theorem PpAt.drewN {w : World} {v : Value} {xs : List Pth} (h : PpAt w v xs) (n : Nat) : PpAt (w.drewN n) v xs := by
  obtain ⟨B, b, cap, rfl, ho⟩ := h
  exact ⟨B, b, cap, rfl, ho.drewN n⟩
theorem neq_same (x : Pth) (W : World) : (binOp .neq 36 (.agg #[.int .i64 x.di, .int .i64 x.he]) (.agg #[.int .i64 x.di, .int .i64 x.he])).run Tryz.prog W = .ok (.bool false) W := by
  rw [neq_PathPoint]
  have : Pp.eqL x x = true := by unfold Pp.eqL; simp
  rw [this]; rfl
theorem An.ab_two {o d h : Int} (h1 : -d ≤ 2 * (o * d - h)) (h2 : 2 * (o * d - h) ≤ d) : ∃ y, Ar.ab (o * d - h) = y ∧ 0 ≤ y ∧ y * 2 ≤ d := by
  refine ⟨_, rfl, Ar.ab_nonneg _, ?_⟩
  unfold Ar.ab
  split <;> omega
theorem An.ra4 {xs : List Pth} {t : Int} (ho : An.okB xs = true) (hst : An.st xs t < (An.la xs).toNat) : ∃ s : Int, (An.st xs t : Int) + 1 = s ∧ 1 ≤ s ∧ s ≤ 20000 ∧ An.al xs s = true ∧ An.vS xs t s = 0 ∧ An.en xs t s ≤ An.gr xs s ∧ (An.be xs t (An.st xs t) : Int) < s ∧ An.al xs (s - 1) = true ∧ (1 < s → An.gr xs (s - 1) < An.en xs t (s - 1)) := by
  obtain ⟨a1, a2, a3, a4, a5, a6⟩ := An.ra1 (An.okB_ok ho) hst
  have hl := (An.okB_ok ho).last
  refine ⟨(An.st xs t : Int) + 1, rfl, by omega, by omega, a1, a2, a3, a4, ?_, ?_⟩
  · rw [show (An.st xs t : Int) + 1 - 1 = (An.st xs t : Int) by omega]; exact a5
  · intro h
    rw [show (An.st xs t : Int) + 1 - 1 = (An.st xs t : Int) by omega]; exact a6 h
theorem raG (w : World) (v : Value) (xs : List Pth) (d : Int) (ho : PpAt w v xs) (hl : xs.length ≤ 25) (h : An.okB xs = true) (ha : An.al xs d = true) :
    Calls Tryz.prog 8 #[v, .int .i64 d] w fun e w' => e = .returned (.tuple #[.int .i64 (An.gr xs d), .int .i64 0]) ∧ Below w.heap.size w w' := by
  have C := implGroundAt_any w v xs d ho.sl (by omega)
  rw [h, ha, Cd.vl_t, Cd.cd_t] at C
  exact C
theorem raL (w : World) (v : Value) (xs : List Pth) (t d : Int) (ho : PpAt w v xs) (hl : xs.length ≤ 25) (h : An.okB xs = true) (ht : An.tg t = true) (ha : An.al xs d = true) :
    Calls Tryz.prog 9 #[v, .int .i64 t, .int .i64 d] w fun e w' => e = .returned (.tuple #[.int .i64 (An.en xs t d), .int .i64 0]) ∧ Below w.heap.size w w' := by
  have C := implLineAt_any w v xs t d ho.sl (by omega)
  rw [h, ht, ha, Bool.and_true, Cd.vl_t, Cd.cd_t] at C
  exact C
theorem raV (w : World) (v : Value) (xs : List Pth) (t d : Int) (ho : PpAt w v xs) (hl : xs.length ≤ 25) (h : An.okB xs = true) (ht : An.tg t = true) (ha : An.al xs d = true) :
    Calls Tryz.prog 10 #[v, .int .i64 t, .int .i64 d] w fun e w' => e = .returned (.tuple #[.int .i64 (An.vS xs t d), .int .i64 0]) ∧ Below w.heap.size w w' := by
  have C := implSpeedAt_any w v xs t d ho (by omega)
  rw [h, ht, ha, Bool.and_true, Cd.vl_t, Cd.cd_t] at C
  exact C
theorem raW (w : World) (v : Value) (xs : List Pth) (t d : Int) (ho : PpAt w v xs) (hl : xs.length ≤ 25) :
    Calls Tryz.prog 10 #[v, .int .i64 t, .int .i64 d] w fun e w' => ∃ z c : Int, e = .returned (.tuple #[.int .i64 z, .int .i64 c]) ∧ ((c ≠ 0 ∧ z = 0) ∨ (c = 0 ∧ 0 ≤ z)) ∧ Below w.heap.size w w' :=
  (implSpeedAt_any w v xs t d ho (by omega)).mono (fun e w' h => ⟨_, _, h.1, An.ra3 xs t d, h.2⟩)
theorem raF (w : World) (v : Value) (xs : List Pth) (t : Int) (ho : PpAt w v xs) (hl : xs.length ≤ 25) (h : An.okB xs = true) (ht : An.tg t = true) :
    Calls Tryz.prog 7 #[v, .int .i64 t] w fun e w' => e = .returned (.tuple #[.int .i64 (An.be xs t (An.st xs t) : Int), .int .i64 (An.spd (An.mo xs t (An.st xs t))), .int .i64 0]) ∧ Below w.heap.size w w' := by
  have C := implFastestAt_any w v xs t ho (by omega)
  rw [h, ht, Cd.vl_t, Cd.vl_t, Cd.cd_t] at C
  exact C
theorem raK (w : World) (v : Value) (xs : List Pth) (i : Nat) (ho : PpAt w v xs) (hl : xs.length ≤ 25) (h : An.okB xs = true) (hk : An.kP xs (i : Int) = true) :
    Calls Tryz.prog 13 #[v, .int .i64 (i : Int)] w fun e w' => e = .returned (.tuple #[.int .i64 (An.tn xs i), .int .i64 0]) ∧ Below w.heap.size w w' := by
  have C := implTangentOf_any w v xs (i : Int) ho.sl (by omega)
  rw [h, hk, Cd.vl_t, Cd.cd_t, Int.toNat_natCast] at C
  exact C
theorem raR {xs : List Pth} (h : An.okB xs = true) (w : World) (hp : Pow w) (he : Errs w) (hm : MaxL w) :
    Calls Tryz.prog 11 #[.string ⟨(An.ptx xs).toArray⟩] w fun e w' => ∃ q cap, e = .returned (.tuple #[.slice (some ⟨q, 0, none⟩) xs.length cap, .bool true]) ∧ PpAt w' (.slice (some ⟨q, 0, none⟩) xs.length cap) xs ∧ Below w.heap.size w w' := by
  have C := implReadPath_any ⟨(An.ptx xs).toArray⟩ w (by rw [sz_mk]; have := An.ptx_len h; omega) hp he hm
  have e : An.rp (⟨(An.ptx xs).toArray⟩ : ByteArray).data.toList = some xs := by simpa using An.rp_ptx h
  rw [e] at C
  refine C.mono ?_
  rintro e w' ⟨u, rfl, o, b⟩
  rcases Go.Joins.ownsRow_forms o with ⟨-, h0⟩ | ⟨g, cap, rfl⟩
  · have := (An.okB_ok h).n2
    have h1 : xs.length = 0 := h0
    omega
  · exact ⟨g, cap, rfl, ⟨_, g, cap, rfl, o⟩, b⟩
set_option maxHeartbeats 400000 in
theorem b10Abs_to (x y : Int) (w : World) (h0 : -1000000000000 ≤ x) (h1 : x ≤ 1000000000000) (h : Ar.ab x = y) :
    Calls Tryz.prog 14 #[.int .i64 x] w fun e w' => e = .returned (.int .i64 y) ∧ w = w' := by
  by_cases hn : x < 0
  · have hy : Hid (-x = y) := Lib.hid (by rw [← h]; unfold Ar.ab; rw [if_pos hn])
    go_enter Tryz.func14, Tryz.ntmps14
    go_wp2
    go_ret
    exact ⟨ret_int hy.out, rfl⟩
  · have hy : Hid (x = y) := Lib.hid (by rw [← h]; unfold Ar.ab; rw [if_neg hn])
    go_enter Tryz.func14, Tryz.ntmps14
    go_wp2
    go_ret
    exact ⟨ret_int hy.out, rfl⟩
theorem bsOfRowA {w : World} {a : Option Addr} {len cap : Nat} {zs : List Int}
    (h : (a = none ∧ len = 0 ∧ cap = 0 ∧ zs = []) ∨ ∃ x, a = some x ∧ len ≤ cap ∧ cap ≤ maxLen ∧ zs.length = cap ∧ (∀ i, i < zs.length → w.cell? (x.add i) = some (.int .u8 (zs.getD i 0))) ∧ ∀ n ∈ zs, (Lit.int .u8 n).wf = true) :
    Bs w.heap.size w (.slice a len cap) len := by
  rcases h with ⟨rfl, rfl, rfl, rfl⟩ | ⟨x, rfl, hl, hm, hz, hc, hw⟩
  · exact Or.inl ⟨rfl, _, _, rfl⟩
  · rcases Nat.eq_zero_or_pos len with h0 | h0
    · subst h0; exact Or.inl ⟨rfl, _, _, rfl⟩
    · obtain ⟨b, off, rfl, hc'⟩ := ints_at hc (by omega)
      have c0 := hc' 0 (by omega)
      refine Or.inr ⟨b, off, cap, rfl, World.block_lt_of_cell? w _ c0, fun j hj => ?_⟩
      have hr := range_u8 hw j
      refine ⟨zs[j]?.getD 0, hr.1, hr.2, ?_⟩
      rw [hc' j (by omega), List.getD_eq_getElem?_getD]
end Go.Proofs.YtmieckchppfogaaGreatDoor

/-
  An asset's text (chapter 15), by the model and by the program. The conditions: no name and no list of cells is longer than 2^20; of the program's side, the library's table of powers of ten holds what its text lays.
-/
import Derived.Test.YtaldmdammipfjaaDoorList
import Derived.Test.YtaldmdammipfjaaDoorTab
import Derived.Test.YtaldmdammipfjaaDoorDec
import Derived.Test.YtaldmdammipfjaaDoorExA
import Derived.Test.YtaldmdammipfjaaDoorExM
import Derived.Deep.RegionHeld3
namespace Go.Proofs.YtaldmdammipfjaaDoor
open Go.RowKit Go.Shelf Go.Deep
set_option linter.unusedVariables false
set_option maxRecDepth 100000
namespace Ex
def asT (x : Ast) : ByteArray := ((⟨x.id.toArray⟩ ++ ⟨#[32]⟩ : ByteArray) ++ ⟨(Lib.itoa x.wo).toArray⟩ ++ ⟨#[32]⟩) ++ ⟨(lt x.ce).toArray⟩
/-- what AssetText answers -/
def asx (x : Ast) : ByteArray := if ok1 64 x = true then asT x else ⟨#[]⟩
theorem asx_no {x : Ast} (h : ok1 64 x = false) : asx x = ⟨#[]⟩ := by unfold asx; rw [if_neg (by rw [h]; decide)]
theorem asx_yes {x : Ast} (h : ok1 64 x = true) : asx x = asT x := by unfold asx; rw [if_pos h]
/-- what stands fast of an asset that is valid -/
structure TxOk (x : Ast) : Prop where
  id : x.id.length ≤ 10
  ce : x.ce.length ≤ 64
  bd : ∀ y ∈ x.ce, -9223372036854775808 ≤ y ∧ y ≤ 9223372036854775807
  fit : fitB x.ce = true
  w1 : 0 ≤ x.wo
  w2 : x.wo ≤ 1000000
  lt : (lt x.ce).length ≤ 1344
  dec : (Lib.itoa x.wo).length ≤ 20
theorem tx_ok {x : Ast} (h : ok1 64 x = true) : TxOk x := by
  obtain ⟨h0, -, h2, -, h4, h5⟩ := ok1_of h
  have hc : x.ce.length ≤ 64 := ok1_ce (n := 64) h
  have hb : ∀ y ∈ x.ce, -9223372036854775808 ≤ y ∧ y ≤ 9223372036854775807 := fun y hy => by have := h2 y hy; omega
  refine ⟨?_, hc, hb, ?_, h4, h5, ?_, itoa_len (by omega) (by omega)⟩
  · by_cases hl : 1 ≤ x.id.length ∧ x.id.length ≤ 10
    · exact hl.2
    · have := nm_len hl; rw [h0] at this; cases this
  · unfold fitB
    rw [Bool.and_eq_true, List.all_eq_true, decide_eq_true_eq]
    exact ⟨fun y hy => by have := h2 y hy; exact Gw.inB_iff.2 (by omega), hc⟩
  · unfold Go.Proofs.YtaldmdammipfjaaDoor.lt
    split
    · simp
    · have := pre_len hb x.ce.length (Nat.le_refl _); omega
theorem ltext_of {x : Ast} (h : TxOk x) : ltext x.ce = Go.Proofs.YtaldmdammipfjaaDoor.lt x.ce := by unfold ltext; rw [if_pos h.fit]
end Ex
set_option maxHeartbeats 6400000 in
theorem l15Text_any (w : World) (b : Nat) (x : Ast) (a : Option Addr) (cap : Nat) (hc : AsCells w b 0 x (.slice a x.ce.length cap)) (hk : Ex.TxOk x) :
    Calls Tryd.prog 51 #[.pointer (some ⟨b, 0, none⟩)] w fun e w' => e = .returned (.string (Ex.asT x)) ∧ Below w.heap.size w w' := by
  have KK := Lib.hid (fun W (h : Below w.heap.size w W) => (show W.cell? ⟨b, 0, none⟩ = some (.string ⟨x.id.toArray⟩) ∧ W.cell? ⟨b, 1, none⟩ = some (.slice a x.ce.length cap) ∧ W.cell? ⟨b, 2, none⟩ = some (.int .i64 x.wo) from ⟨(hc.all h).c0, by have := (hc.all h).c1; simpa using this, by have := (hc.all h).c2; simpa using this⟩))
  have CL := Lib.hid (fun W (h : Below w.heap.size w W) => l01List_any W (.slice a x.ce.length cap) x.ce (hc.sl.below h) hk.ce hk.bd)
  have CD := Lib.hid (fun W => l01Dec_any x.wo W (by have := hk.w1; omega) (by have := hk.w2; omega))
  have BD : Hid (Below w.heap.size w w.drew) := Lib.hid (below_drewW w 1)
  have hlt := hc.lt
  obtain ⟨x0, x1, x2⟩ := KK.out w (Below.refl _ _)
  have S1 : (⟨x.id.toArray⟩ : ByteArray).size ≤ 10 := by rw [exSz]; exact hk.id
  have S2 : (⟨(Lib.itoa x.wo).toArray⟩ : ByteArray).size ≤ 20 := by rw [exSz]; exact hk.dec
  have S3 : (⟨(lt x.ce).toArray⟩ : ByteArray).size ≤ 1344 := by rw [exSz]; exact hk.lt
  unfold Ex.asT
  clear hc hk
  generalize (⟨(lt x.ce).toArray⟩ : ByteArray) = t3 at *
  generalize (⟨(Lib.itoa x.wo).toArray⟩ : ByteArray) = t2 at *
  generalize (⟨x.id.toArray⟩ : ByteArray) = t1 at *
  have n1 : ¬ 9223372036854775807 < t1.size + 1 := by omega
  have n2 : ¬ 9223372036854775807 < t1.size + 1 + t2.size := by omega
  have n3 : ¬ 9223372036854775807 < t1.size + 1 + t2.size + 1 := by omega
  have n4 : ¬ 9223372036854775807 < t1.size + 1 + t2.size + 1 + t3.size := by omega
  clear S1 S2 S3
  generalize x.wo = wo at *
  generalize x.ce.length = cn at *
  go_enter Tryd.func51, Tryd.ntmps51
  go_wp2_with fail
  go_region_held3 (fun w' => w'.cell? ⟨b, 0, none⟩ = some (.string t1) ∧ w'.cell? ⟨b, 1, none⟩ = some (.slice a cn cap) ∧ w'.cell? ⟨b, 2, none⟩ = some (.int .i64 wo)) (go_keep)
    (first
      | (go_at_call 90; with_reducible refine Calls.mono (CL.out wA BA.out) ?_; rintro e wB ⟨rfl, bB⟩; have BB := Lib.hid (bt BA.out bB); clear bB; obtain ⟨y0, y1, y2⟩ := KK.out wB BB.out)
      | (go_at_call 89; with_reducible refine Calls.mono (CD.out wA) ?_; rintro e wB ⟨rfl, bB⟩; have BB := Lib.hid (bt BA.out bB); clear bB; obtain ⟨y0, y1, y2⟩ := KK.out wB BB.out)
      | (go_at_call 90; with_reducible refine Calls.mono (CL.out w.drew BD.out) ?_; rintro e wA ⟨rfl, bA⟩; have BA := Lib.hid (bt BD.out bA); clear bA; obtain ⟨y0, y1, y2⟩ := KK.out wA BA.out)
      | (go_at_call 89; with_reducible refine Calls.mono (CD.out w.drew) ?_; rintro e wA ⟨rfl, bA⟩; have BA := Lib.hid (bt BD.out bA); clear bA; obtain ⟨y0, y1, y2⟩ := KK.out wA BA.out))
  all_goals (
    go_wp2_with fail
    go_ret
    exact ⟨rfl, BB.out⟩)
set_option maxHeartbeats 1600000 in
theorem specAssetText_any (x : Ast) (u : Value) (w : World) (hs : Sl w u x.ce) (hx : As.Sh1 x) :
    Calls Tryd.prog 25 #[.agg #[.string ⟨x.id.toArray⟩, u, .int .i64 x.wo]] w fun e w' => e = .returned (.string (Ex.asx x)) ∧ Below w.heap.size w w' := by
  obtain ⟨a, cap, rfl⟩ := hs.form
  have HB := Lib.hid (boxAst_below w x (.slice a x.ce.length cap) 48)
  have hK : AsCells (boxAst w x (.slice a x.ce.length cap) 48) w.heap.size 0 x (.slice a x.ce.length cap) := by
    have h := boxAst_whole w x (.slice a x.ce.length cap) 48
    exact ⟨h.at_ 0, h.at_ 1, h.at_ 2, hs.below HB.out⟩
  have C := Lib.hid (l15One_q 64 x w.heap.size 0 _ _ hK hx (by omega) (by omega))
  have HK := Lib.hid hK
  clear hs hK
  cases hq : Ex.ok1 64 x with
  | false =>
    have hr := Lib.hid (Ex.asx_no hq)
    rw [hr.out]
    rw [hq] at C
    clear hq hr HK
    unfold boxAst at C HB
    go_enter Tryd.func25, Tryd.ntmps25
    go_wp2_with fail
    refine C.out.mono ?_
    rintro e w' ⟨rfl, m, rfl⟩
    go_wp2_with fail
    go_ret
    exact ⟨rfl, below_drewN HB.out _⟩
  | true =>
    have hr := Lib.hid (Ex.asx_yes hq)
    have D := Lib.hid (fun m => l15Text_any _ w.heap.size x a cap (HK.out.drewN m) (Ex.tx_ok hq))
    rw [hr.out]
    rw [hq] at C
    clear hq hr HK
    unfold boxAst at C HB D
    go_enter Tryd.func25, Tryd.ntmps25
    go_wp2_with fail
    refine C.out.mono ?_
    rintro e w' ⟨rfl, m, rfl⟩
    go_wp2_with fail
    refine (D.out m).mono ?_
    rintro e w1 ⟨rfl, b1⟩
    have B1 := Lib.hid (bt (below_drewN HB.out m) b1)
    clear b1
    go_wp2_with fail
    go_ret
    exact ⟨rfl, B1.out⟩
set_option maxHeartbeats 6400000 in
theorem implAssetText_any (x : Ast) (u : Value) (w : World) (hs : Sl w u x.ce) (hx : As.Sh1 x) (hp : Pow w) :
    Calls Tryd.prog 27 #[.agg #[.string ⟨x.id.toArray⟩, u, .int .i64 x.wo]] w fun e w' => e = .returned (.string (Ex.asx x)) ∧ Below w.heap.size w w' := by
  obtain ⟨a, cap, rfl⟩ := hs.form
  obtain ⟨W1, hW1⟩ : ∃ W, boxAst w x (.slice a x.ce.length cap) 48 = W := ⟨_, rfl⟩
  have HB : Hid (Below w.heap.size w W1) := Lib.hid (by rw [← hW1]; exact boxAst_below ..)
  have KW : Hid (Whole W1 w.heap.size 48 #[.string ⟨x.id.toArray⟩, .slice a x.ce.length cap, .int .i64 x.wo]) := Lib.hid (by rw [← hW1]; exact boxAst_whole ..)
  have HS := Lib.hid (hs.below HB.out)
  have HP := Lib.hid (hp.below HB.out)
  have C := Lib.hid (isWrongAst_any 64 x (.slice a x.ce.length cap) W1 HS.out hx (by omega) (by omega))
  have KK := Lib.hid (fun W (h : Below W1.heap.size W1 W) => (show W.cell? ⟨w.heap.size, 0, none⟩ = some (.string ⟨x.id.toArray⟩) ∧ W.cell? ⟨w.heap.size, 1, none⟩ = some (.slice a x.ce.length cap) ∧ W.cell? ⟨w.heap.size, 2, none⟩ = some (.int .i64 x.wo) from ⟨(KW.out.all h).at_ 0, (KW.out.all h).at_ 1, (KW.out.all h).at_ 2⟩))
  obtain ⟨x0, x1, x2⟩ := KK.out W1 (Below.refl _ _)
  have hwl := KW.out.lt
  clear hs hp
  unfold boxAst at hW1
  cases hq : Ex.ok1 64 x with
  | false =>
    have hr := Lib.hid (Ex.asx_no hq)
    rw [hr.out]
    rw [hq] at C
    clear hq hr
    go_enter Tryd.func27, Tryd.ntmps27
    go_wp2_with fail
    try rw [hW1]
    refine C.out.mono ?_
    rintro e w1 ⟨rfl, b1⟩
    have B1 := Lib.hid (bt HB.out b1)
    clear b1
    go_wp2_with fail
    go_ret
    exact ⟨rfl, B1.out⟩
  | true =>
    have hr := Lib.hid (Ex.asx_yes hq)
    have hk := Ex.tx_ok hq
    have CL := Lib.hid (fun W (h : Below W1.heap.size W1 W) => implListText_any W (.slice a x.ce.length cap) x.ce (HS.out.below h) hx.2 (HP.out.below h))
    rw [Ex.ltext_of hk] at CL
    have CD := Lib.hid (fun W (h : Below W1.heap.size W1 W) => implDecimal_any x.wo W (by have := hk.w1; omega) (by have := hk.w2; omega) (HP.out.below h))
    rw [hr.out]
    rw [hq] at C
    have S1 : (⟨x.id.toArray⟩ : ByteArray).size ≤ 10 := by rw [exSz]; exact hk.id
    have S2 : (⟨(Lib.itoa x.wo).toArray⟩ : ByteArray).size ≤ 20 := by rw [exSz]; exact hk.dec
    have S3 : (⟨(lt x.ce).toArray⟩ : ByteArray).size ≤ 1344 := by rw [exSz]; exact hk.lt
    unfold Ex.asT
    clear hq hr hk hx KW HS
    generalize (⟨(lt x.ce).toArray⟩ : ByteArray) = t3 at *
    generalize (⟨(Lib.itoa x.wo).toArray⟩ : ByteArray) = t2 at *
    generalize (⟨x.id.toArray⟩ : ByteArray) = t1 at *
    have n1 : ¬ 9223372036854775807 < t1.size + 1 := by omega
    have n2 : ¬ 9223372036854775807 < t1.size + 1 + t2.size := by omega
    have n3 : ¬ 9223372036854775807 < t1.size + 1 + t2.size + 1 := by omega
    have n4 : ¬ 9223372036854775807 < t1.size + 1 + t2.size + 1 + t3.size := by omega
    clear S1 S2 S3
    generalize x.wo = wo at *
    generalize x.ce.length = cn at *
    go_enter Tryd.func27, Tryd.ntmps27
    go_wp2_with fail
    try rw [hW1]
    refine C.out.mono ?_
    rintro e w1 ⟨rfl, b1⟩
    have N1 := Lib.hid b1
    obtain ⟨z0, z1, z2⟩ := KK.out w1 b1
    have BD : Hid (Below W1.heap.size W1 w1.drew) := Lib.hid (bt b1 (below_drewW w1 1))
    clear b1 x0 x1 x2
    go_wp2_with fail
    go_region_held3 (fun w' => w'.cell? ⟨w.heap.size, 0, none⟩ = some (.string t1) ∧ w'.cell? ⟨w.heap.size, 1, none⟩ = some (.slice a cn cap) ∧ w'.cell? ⟨w.heap.size, 2, none⟩ = some (.int .i64 wo)) (go_keep)
      (first
        | (go_at_call 54; with_reducible refine Calls.mono (CL.out wA BA.out) ?_; rintro e wB ⟨rfl, bB⟩; have BB := Lib.hid (bt BA.out bB); clear bB; obtain ⟨y0, y1, y2⟩ := KK.out wB BB.out)
        | (go_at_call 53; with_reducible refine Calls.mono (CD.out wA BA.out) ?_; rintro e wB ⟨rfl, bB⟩; have BB := Lib.hid (bt BA.out bB); clear bB; obtain ⟨y0, y1, y2⟩ := KK.out wB BB.out)
        | (go_at_call 54; with_reducible refine Calls.mono (CL.out w1.drew BD.out) ?_; rintro e wA ⟨rfl, bA⟩; have BA := Lib.hid (bt BD.out bA); clear bA; obtain ⟨y0, y1, y2⟩ := KK.out wA BA.out)
        | (go_at_call 53; with_reducible refine Calls.mono (CD.out w1.drew BD.out) ?_; rintro e wA ⟨rfl, bA⟩; have BA := Lib.hid (bt BD.out bA); clear bA; obtain ⟨y0, y1, y2⟩ := KK.out wA BA.out))
    all_goals (
      go_wp2_with fail
      go_ret
      exact ⟨rfl, bt HB.out BB.out⟩)
end Go.Proofs.YtaldmdammipfjaaDoor

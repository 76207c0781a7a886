/-
  A field's text (chapter 6), by the model and by the program. The condition of the program's side: the library's table of powers of ten holds what its text lays.
-/
import Derived.Test.YteikghppebiibabDoorList
import Derived.Test.YteikghppebiibabDoorFdV
namespace Go.Proofs.YteikghppebiibabDoor
open Go.RowKit Go.Shelf Go.Deep Go.WideShapes
set_option linter.unusedVariables false
set_option maxRecDepth 100000

namespace Fw
/-- what FieldText answers -/
def ftx (r c : Int) (zs : List Int) : ByteArray :=
  if ok r c zs = true then ((((⟨(Lib.itoa r).toArray⟩ ++ ⟨#[120]⟩ : ByteArray) ++ ⟨(Lib.itoa c).toArray⟩) ++ ⟨#[32]⟩) ++ ⟨(lt zs).toArray⟩) else ⟨#[]⟩
theorem ok_lt {r c : Int} {zs : List Int} (h : ok r c zs = true) : ltext zs = lt zs := by
  obtain ⟨h1, h2⟩ := (ok_iff _ _ _).1 h
  have h3 := (okMs_iff zs).1 h2
  have h4 := (fits_len h1).2
  have hf : fitB zs = true := by
    unfold fitB
    rw [Bool.and_eq_true, List.all_eq_true]
    exact ⟨fun x hx => by have := h3 x hx; unfold okV Ar.inB; simp; omega, by simp; exact h4⟩
  unfold ltext; rw [if_pos hf]
theorem ok_bd {r c : Int} {zs : List Int} (h : ok r c zs = true) : (1 ≤ r ∧ r ≤ 8) ∧ (1 ≤ c ∧ c ≤ 8) ∧ zs.length ≤ 64 ∧ (∀ x ∈ zs, -9223372036854775808 ≤ x ∧ x ≤ 9223372036854775807) := by
  obtain ⟨h1, h2⟩ := (ok_iff _ _ _).1 h
  have h3 := (okMs_iff zs).1 h2
  obtain ⟨a, b, _⟩ := (fits_iff _ _ _).1 h1
  exact ⟨a, b, (fits_len h1).2, fun x hx => by have := h3 x hx; omega⟩
end Fw
theorem lt_len {zs : List Int} (hl : zs.length ≤ 64) (hf : ∀ x ∈ zs, -9223372036854775808 ≤ x ∧ x ≤ 9223372036854775807) : (lt zs).length ≤ 1344 := by
  unfold lt
  split
  · simp
  · have := pre_len hf zs.length (Nat.le_refl _); omega

set_option maxHeartbeats 3200000 in
theorem l06Text_any (w : World) (b : Nat) (r c : Int) (v : Value) (zs : List Int) (hc : FC w b r c v) (hv : Sl w v zs) (hk : Fw.ok r c zs = true) :
    Calls Tryd.prog 68 #[.pointer (some ⟨b, 0, none⟩)] w fun e w' => e = .returned (.string (Fw.ftx r c zs)) ∧ Below w.heap.size w w' := by
  obtain ⟨a, cap, rfl⟩ := hv.form
  obtain ⟨⟨r1, r2⟩, ⟨c1, c2⟩, hl, hf⟩ := Fw.ok_bd hk
  have HC := Lib.hid hc
  have C1 := Lib.hid (fun W => l01Dec_any r W (by omega) (by omega))
  have K0 := Lib.hid (fun W (h : Below w.heap.size w W) => (hc.all h).three)
  have C2 := Lib.hid (fun W => l01Dec_any c W (by omega) (by omega))
  have C3 := Lib.hid (fun W (h : Below w.heap.size w W) => l01List_any W _ zs (hv.below h) hl hf)
  have hr : Hid (Fw.ftx r c zs = ((((⟨(Lib.itoa r).toArray⟩ ++ ⟨#[120]⟩ : ByteArray) ++ ⟨(Lib.itoa c).toArray⟩) ++ ⟨#[32]⟩) ++ ⟨(lt zs).toArray⟩)) := Lib.hid (by unfold Fw.ftx; rw [if_pos hk])
  have L1 := itoa_len (x := r) (by omega) (by omega)
  have L2 := itoa_len (x := c) (by omega) (by omega)
  have L3 := lt_len hl hf
  rw [hr.out]
  have S1 : (⟨(Lib.itoa r).toArray⟩ : ByteArray).size ≤ 20 := by rw [sz_mk]; exact L1
  have S2 : (⟨(Lib.itoa c).toArray⟩ : ByteArray).size ≤ 20 := by rw [sz_mk]; exact L2
  have S3 : (⟨(lt zs).toArray⟩ : ByteArray).size ≤ 1344 := by rw [sz_mk]; exact L3
  generalize (⟨(Lib.itoa r).toArray⟩ : ByteArray) = t1 at *
  generalize (⟨(Lib.itoa c).toArray⟩ : ByteArray) = t2 at *
  generalize (⟨(lt zs).toArray⟩ : ByteArray) = t3 at *
  have n1 : ¬ 9223372036854775807 < t1.size + 1 := by omega
  have n2 : ¬ 9223372036854775807 < t1.size + 1 + t2.size := by omega
  have n3 : ¬ 9223372036854775807 < t1.size + 1 + t2.size + 1 := by omega
  have n4 : ¬ 9223372036854775807 < t1.size + 1 + t2.size + 1 + t3.size := by omega
  clear S1 S2 S3
  obtain ⟨x0, x1, x2⟩ := (HC.out.all (Below.refl _ _)).three
  clear hc hv hf L1 L2 L3 hr hk r1 r2 c1 c2 hl
  go_enter Tryd.func68, Tryd.ntmps68
  go_wp2_with fail
  first | (go_region_held3 (fun w' => w'.cell? ⟨b, 0, none⟩ = some (.int .i64 r) ∧ w'.cell? ⟨b, 1, none⟩ = some (.int .i64 c) ∧ w'.cell? ⟨b, 2, none⟩ = some (.slice a zs.length cap)) (go_keep)
    (first
      | (go_at_call 92; have bA1 := bA0; refine (C2.out _).mono ?_; rintro e wB ⟨rfl, bB⟩; have bB0 := bt bA0 bB; obtain ⟨v0, v1, v2⟩ := K0.out wB bB0)
      | (go_at_call 92; refine (C1.out _).mono ?_; rintro e wA ⟨rfl, bA⟩; have bA0 := bt (bdr1 _) bA; obtain ⟨z0, z1, z2⟩ := K0.out wA bA0)
      | (go_at_call 93; refine (C3.out _ bB0).mono ?_; rintro e wC ⟨rfl, bC⟩; have bC0 := bt bB0 bC; obtain ⟨u0, u1, u2⟩ := K0.out wC bC0))) | fail "region"
  have B3 := Lib.hid bC0
  clear bA0 bB0 bC0 bA bB bC
  go_wp2_with fail
  go_ret
  exact ⟨rfl, B3.out⟩
theorem specFieldText_any (w : World) (r c : Int) (v : Value) (zs : List Int) (hv : Sl w v zs) (hl : zs.length ≤ 1048576) :
    Calls Tryd.prog 35 #[.agg #[.int .i64 r, .int .i64 c, v]] w fun e w' => e = .returned (.string (Fw.ftx r c zs)) ∧ Below w.heap.size w w' := by
  obtain ⟨a, cap, rfl⟩ := hv.form
  have HB := Lib.hid (boxF_below w r c (.slice a zs.length cap) 28)
  have hbx : boxF w r c (.slice a zs.length cap) 28 = w.alloc (.cells #[.int .i64 r, .int .i64 c, .slice a zs.length cap] 28) := rfl
  have K := Lib.hid (boxF_cells w r c (.slice a zs.length cap) 28)
  generalize boxF w r c (.slice a zs.length cap) 28 = W1 at *
  have CK := Lib.hid (l06Ok_any W1 w.heap.size r c _ zs K.out (hv.below HB.out) hl)
  have CT := Lib.hid (fun W (h : Below W1.heap.size W1 W) (hk : Fw.ok r c zs = true) => l06Text_any W w.heap.size r c _ zs (K.out.all h) ((hv.below HB.out).below h) hk)
  clear hv K
  cases hq : Fw.ok r c zs with
  | false =>
    have hr : Hid (Fw.ftx r c zs = ⟨#[]⟩) := Lib.hid (by unfold Fw.ftx; rw [if_neg (by rw [hq]; decide)])
    rw [hr.out]
    rw [hq] at CK
    clear hq hr CT
    go_enter Tryd.func35, Tryd.ntmps35
    go_wp2_with fail
    rw [← hbx]
    clear hbx
    refine CK.out.mono ?_
    rintro e w1 ⟨rfl, b1⟩
    have B1 := Lib.hid (bt HB.out b1)
    clear b1
    go_wp2_with fail
    go_ret
    exact ⟨rfl, B1.out⟩
  | true =>
    have CT1 := Lib.hid (fun W h => CT.out W h hq)
    rw [hq] at CK
    clear hq CT
    go_enter Tryd.func35, Tryd.ntmps35
    go_wp2_with fail
    rw [← hbx]
    clear hbx
    refine CK.out.mono ?_
    rintro e w1 ⟨rfl, b1⟩
    have B1 := Lib.hid b1
    clear b1
    go_wp2_with fail
    refine (CT1.out _ B1.out).mono ?_
    rintro e w2 ⟨rfl, b2⟩
    have B2 := Lib.hid (bt HB.out (bt B1.out b2))
    clear b2
    go_wp2_with fail
    go_ret
    exact ⟨rfl, B2.out⟩
set_option maxHeartbeats 3200000 in
theorem implFieldText_any (w : World) (r c : Int) (v : Value) (zs : List Int) (hv : Sl w v zs) (hl : zs.length ≤ 1048576) (hp : Pow w) :
    Calls Tryd.prog 36 #[.agg #[.int .i64 r, .int .i64 c, v]] w fun e w' => e = .returned (.string (Fw.ftx r c zs)) ∧ Below w.heap.size w w' := by
  obtain ⟨a, cap, rfl⟩ := hv.form
  have HB := Lib.hid (boxF_below w r c (.slice a zs.length cap) 28)
  have hbx : boxF w r c (.slice a zs.length cap) 28 = w.alloc (.cells #[.int .i64 r, .int .i64 c, .slice a zs.length cap] 28) := rfl
  have K := Lib.hid (boxF_cells w r c (.slice a zs.length cap) 28)
  generalize boxF w r c (.slice a zs.length cap) 28 = W1 at *
  have K0 := Lib.hid (fun W (h : Below W1.heap.size W1 W) => (K.out.all h).three)
  have CK := Lib.hid (implValidField_any W1 r c _ zs (hv.below HB.out) hl)
  have HV := Lib.hid (hv.below HB.out)
  have HP := Lib.hid (hp.below HB.out)
  clear hv hp
  obtain ⟨x0, x1, x2⟩ := (K.out.all (Below.refl _ _)).three
  cases hq : Fw.ok r c zs with
  | false =>
    have hr : Hid (Fw.ftx r c zs = ⟨#[]⟩) := Lib.hid (by unfold Fw.ftx; rw [if_neg (by rw [hq]; decide)])
    rw [hr.out]
    rw [hq] at CK
    clear hq hr K HV HP
    go_enter Tryd.func36, Tryd.ntmps36
    go_wp2_with fail
    rw [← hbx]
    clear hbx
    go_wp2_with fail
    refine CK.out.mono ?_
    rintro e w1 ⟨rfl, b1⟩
    have B1 := Lib.hid (bt HB.out b1)
    clear b1
    go_wp2_with fail
    go_ret
    exact ⟨rfl, B1.out⟩
  | true =>
    obtain ⟨⟨r1, r2⟩, ⟨c1, c2⟩, hl4, hf⟩ := Fw.ok_bd hq
    have hlt := Lib.hid (Fw.ok_lt hq)
    have C1 := Lib.hid (fun W (h : Below W1.heap.size W1 W) => implDecimal_any r W (by omega) (by omega) (HP.out.below h))
    have C2 := Lib.hid (fun W (h : Below W1.heap.size W1 W) => implDecimal_any c W (by omega) (by omega) (HP.out.below h))
    have C3 := Lib.hid (fun W (h : Below W1.heap.size W1 W) => implListText_any W _ zs (HV.out.below h) hl (HP.out.below h))
    rw [hlt.out] at C3
    have hr : Hid (Fw.ftx r c zs = ((((⟨(Lib.itoa r).toArray⟩ ++ ⟨#[120]⟩ : ByteArray) ++ ⟨(Lib.itoa c).toArray⟩) ++ ⟨#[32]⟩) ++ ⟨(lt zs).toArray⟩)) := Lib.hid (by unfold Fw.ftx; rw [if_pos hq])
    have L1 := itoa_len (x := r) (by omega) (by omega)
    have L2 := itoa_len (x := c) (by omega) (by omega)
    have L3 := lt_len hl4 hf
    rw [hr.out]
    rw [hq] at CK
    have S1 : (⟨(Lib.itoa r).toArray⟩ : ByteArray).size ≤ 20 := by rw [sz_mk]; exact L1
    have S2 : (⟨(Lib.itoa c).toArray⟩ : ByteArray).size ≤ 20 := by rw [sz_mk]; exact L2
    have S3 : (⟨(lt zs).toArray⟩ : ByteArray).size ≤ 1344 := by rw [sz_mk]; exact L3
    generalize (⟨(Lib.itoa r).toArray⟩ : ByteArray) = t1 at *
    generalize (⟨(Lib.itoa c).toArray⟩ : ByteArray) = t2 at *
    generalize (⟨(lt zs).toArray⟩ : ByteArray) = t3 at *
    have n1 : ¬ 9223372036854775807 < t1.size + 1 := by omega
    have n2 : ¬ 9223372036854775807 < t1.size + 1 + t2.size := by omega
    have n3 : ¬ 9223372036854775807 < t1.size + 1 + t2.size + 1 := by omega
    have n4 : ¬ 9223372036854775807 < t1.size + 1 + t2.size + 1 + t3.size := by omega
    clear S1 S2 S3
    clear hf L1 L2 L3 hr hq r1 r2 c1 c2 hl4 hl HV HP hlt
    go_enter Tryd.func36, Tryd.ntmps36
    go_wp2_with fail
    rw [← hbx]
    clear hbx
    go_wp2_with fail
    refine CK.out.mono ?_
    rintro e w1 ⟨rfl, b1⟩
    have B1 := Lib.hid b1
    obtain ⟨y0, y1, y2⟩ := (K.out.all b1).three
    clear b1 x0 x1 x2
    go_wp2_with fail
    first | (go_region_held3 (fun w' => w'.cell? ⟨w.heap.size, 0, none⟩ = some (.int .i64 r) ∧ w'.cell? ⟨w.heap.size, 1, none⟩ = some (.int .i64 c) ∧ w'.cell? ⟨w.heap.size, 2, none⟩ = some (.slice a zs.length cap)) (go_keep)
      (first
        | (go_at_call 69; refine (C2.out _ bA0).mono ?_; rintro e wB ⟨rfl, bB⟩; have bB0 := bt bA0 bB; obtain ⟨v0, v1, v2⟩ := K0.out wB bB0)
        | (go_at_call 69; refine (C1.out _ (bt B1.out (bdr1 _))).mono ?_; rintro e wA ⟨rfl, bA⟩; have bA0 := bt (bt B1.out (bdr1 _)) bA; obtain ⟨z0, z1, z2⟩ := K0.out wA bA0)
        | (go_at_call 70; refine (C3.out _ bB0).mono ?_; rintro e wC ⟨rfl, bC⟩; have bC0 := bt bB0 bC; obtain ⟨u0, u1, u2⟩ := K0.out wC bC0))) | fail "region"
    have B4 := Lib.hid (bt HB.out bC0)
    clear bA0 bB0 bC0 bA bB bC
    go_wp2_with fail
    go_ret
    exact ⟨rfl, B4.out⟩
end Go.Proofs.YteikghppebiibabDoor

/-
  SettleProfile, WarmTop, CoolTop, DrainProfile of chapter 5: by the program and by the model. No condition of its own.
-/
import Derived.Test.YtfbfdiejffjbmaaStep
import Derived.Test.YtfbfdiejffjbmaaHrE
import Derived.Test.YtfbfdiejffjbmaaHrC
import Derived.Test.YtfbfdiejffjbmaaHrD
import Derived.Test.YtfbfdiejffjbmaaHrSa
import Derived.Test.YtfbfdiejffjbmaaHrSc
import Derived.Test.YtfbfdiejffjbmaaHrSd
import Derived.Test.YtfbfdiejffjbmaaHrSw
namespace Go.Proofs.Ytfbfdiejffjbmaa
open Go.RowKit Go.Shelf
set_option linter.unusedVariables false
set_option maxRecDepth 100000

namespace La
def pfL (xs ys : List Lay) : List Lay := if okP xs then ys else []
theorem pfL_t {xs ys : List Lay} (h : okP xs = true) : pfL xs ys = ys := by unfold pfL; rw [h]; rfl
theorem pfL_f {xs ys : List Lay} (h : okP xs = false) : pfL xs ys = [] := by unfold pfL; rw [h]; rfl
theorem pfL_len {xs ys : List Lay} (h : ys.length = xs.length) : (pfL xs ys).length ≤ 1048576 := by
  cases hq : okP xs with
  | true => rw [pfL_t hq, h]; have := ((okP_iff xs).1 hq).1; omega
  | false => rw [pfL_f hq]; simp
def htC (xs : List Lay) (j : Int) : Int := if okP xs then (if Ar.inB 0 j 100000000 then 0 else 2) else 1
def htL (f : Lay → Int → Lay × Int × Bool) (xs : List Lay) (j : Int) : List Lay := if okP xs && Ar.inB 0 j 100000000 then (top f xs j).1 else []
def htR (f : Lay → Int → Lay × Int × Bool) (xs : List Lay) (j : Int) : Int := if okP xs && Ar.inB 0 j 100000000 then (top f xs j).2.1 else 0
variable {f : Lay → Int → Lay × Int × Bool} {xs : List Lay} {j : Int}
theorem ht_1 (h : okP xs = false) : htC xs j = 1 ∧ htL f xs j = [] ∧ htR f xs j = 0 := by unfold htC htL htR; simp [h]
theorem ht_2 (h : okP xs = true) (h' : Ar.inB 0 j 100000000 = false) : htC xs j = 2 ∧ htL f xs j = [] ∧ htR f xs j = 0 := by unfold htC htL htR; simp [h, h']
theorem ht_0 (h : okP xs = true) (h' : Ar.inB 0 j 100000000 = true) : htC xs j = 0 ∧ htL f xs j = (top f xs j).1 ∧ htR f xs j = (top f xs j).2.1 := by unfold htC htL htR; simp [h, h']
theorem htL_len (f : Lay → Int → Lay × Int × Bool) (xs : List Lay) (j : Int) : (htL f xs j).length ≤ 1048576 := by
  unfold htL
  split
  · rename_i h
    rw [Bool.and_eq_true] at h
    rw [top_len]; have := ((okP_iff xs).1 h.1).1; omega
  · simp
end La
/-- what a call that answers a list of layers, a number and a code leaves -/
def RLIC (w : World) (xs : List Lay) (r c : Int) (e : Ending) (w' : World) : Prop := ∃ u, e = .returned (.tuple #[u, .int .i64 r, .int .i64 c]) ∧ LOwn w.heap.size w' u xs ∧ Below w.heap.size w w'
theorem RLIC.no {w w' : World} {r c d : Int} {xs : List Lay} (h : d = c ∧ xs = [] ∧ r = 0) (hb : Below w.heap.size w w') : RLIC w xs r d (.returned (.tuple #[.slice none 0 0, .int .i64 0, .int .i64 c])) w' := by
  obtain ⟨rfl, rfl, rfl⟩ := h
  exact ⟨_, rfl, LOwn.nil _ _, hb⟩
theorem RLIC.yes {w w' : World} {c d r s : Int} {xs ys : List Lay} {u : Value} (h : d = c ∧ xs = ys ∧ r = s) (ho : LOwn w.heap.size w' u ys) (hb : Below w.heap.size w w') : RLIC w xs r d (.returned (.tuple #[u, .int .i64 s, .int .i64 c])) w' := by
  obtain ⟨rfl, rfl, rfl⟩ := h
  exact ⟨_, rfl, ho, hb⟩
/-- an argument that is a row of layers of somebody's own -/
def LAt (w : World) (v : Value) (xs : List Lay) : Prop := ∃ B b cap, v = .slice (some ⟨b, 0, none⟩) xs.length cap ∧ LOwn B w v xs
theorem LAt.sl {w : World} {v : Value} {xs : List Lay} (h : LAt w v xs) : LSl w v xs := by obtain ⟨B, b, cap, rfl, ho⟩ := h; exact ho.sl
set_option maxHeartbeats 1600000 in
theorem settledProfile_any (w : World) (v : Value) (xs : List Lay) (hv : LSl w v xs) (hq : La.okP xs = true) :
    Calls Try.prog 110 #[v] w (RL w (La.sal xs)) := by
  obtain ⟨h16, hfit⟩ := (La.okP_iff xs).1 hq
  have C := Lib.hid (fromTop_any 149 (enters_of Try.func149 (by kernel_rfl) rfl) (fun x l => (La.stl x l, l + La.mass x, true)) (fun l n => 0 ≤ l ∧ l ≤ 2000000 * (n : Int)) 0 w v xs h16 hv ⟨Int.le_refl _, by omega⟩
    (fun x hx l n hn hl => by have := La.mass_in (hfit x hx); show 0 ≤ l + La.mass x ∧ l + La.mass x ≤ 2000000 * ((n + 1 : Nat) : Int); push_cast; omega)
    (fun x hx l n hn hl W => settleLit_any x l W (hfit x hx) hl.1 (by omega)))
  rw [La.sal_top0] at C
  have HL := Lib.hid (La.sal_len xs)
  clear hv hq hfit
  go_enter Try.func110, Try.ntmps110
  go_wp2_with fail
  refine C.out.mono ?_
  rintro e w1 ⟨rfl, o1, b1⟩
  have O1 := Lib.hid o1
  have B1 := Lib.hid b1
  clear o1 b1
  go_wp2_with fail
  go_ret
  exact RL.yes rfl O1.out B1.out
set_option maxHeartbeats 800000 in
theorem implSettleProfile_any (w : World) (v : Value) (xs : List Lay) (ho : LAt w v xs) (hl : xs.length ≤ 1048576) :
    Calls Try.prog 54 #[v] w (RLC w (rc (La.okP xs) 1) (La.pfL xs (La.sal xs))) := by
  have C := Lib.hid (implValidProfile_any w v xs ho.sl hl)
  have HS := Lib.hid ho.sl
  obtain ⟨B, b, cap, rfl, ho⟩ := ho
  cases hq : La.okP xs with
  | false =>
    have hr := Lib.hid (La.pfL_f (ys := La.sal xs) hq)
    rw [hq] at C
    clear hq ho
    go_enter Try.func54, Try.ntmps54
    go_wp2_with fail
    refine C.out.mono ?_
    rintro e w1 ⟨rfl, b1⟩
    have B1 := Lib.hid b1
    clear b1
    go_wp2_with fail
    go_ret2
    exact RLC.no ⟨rfl, hr.out⟩ B1.out
  | true =>
    have hr := Lib.hid (La.pfL_t (ys := La.sal xs) hq)
    have CS := Lib.hid (fun W h => settledProfile_any W (.slice (some ⟨b, 0, none⟩) xs.length cap) xs h hq)
    rw [hq] at C
    clear hq ho
    go_enter Try.func54, Try.ntmps54
    go_wp2_with fail
    refine C.out.mono ?_
    rintro e w1 ⟨rfl, b1⟩
    have B1 := Lib.hid b1
    clear b1
    go_wp2_with fail
    refine (CS.out w1 (HS.out.below B1.out)).mono ?_
    rintro e w2 ⟨g, cap2, rfl, o2, b2⟩
    have O2 := Lib.hid (o2.le B1.out.size)
    have B2 := Lib.hid (bt B1.out b2)
    clear o2 b2
    go_wp2_with fail
    go_ret2
    exact RLC.yes ⟨rfl, hr.out⟩ O2.out B2.out
set_option maxHeartbeats 800000 in
theorem specSettleProfile_any (w : World) (v : Value) (xs : List Lay) (ho : LAt w v xs) (hl : xs.length ≤ 1048576) :
    Calls Try.prog 53 #[v] w (RLC w (rc (La.okP xs) 1) (La.pfL xs (La.sal xs))) := by
  have C := Lib.hid (l03Ok_any w v xs ho.sl hl)
  obtain ⟨B, b, cap, rfl, ho⟩ := ho
  cases hq : La.okP xs with
  | false =>
    have hr := Lib.hid (La.pfL_f (ys := La.sal xs) hq)
    rw [hq] at C
    clear hq ho
    go_enter Try.func53, Try.ntmps53
    go_wp2_with fail
    refine C.out.mono ?_
    rintro e w1 ⟨rfl, rfl⟩
    go_wp2_with fail
    go_ret2
    exact RLC.no ⟨rfl, hr.out⟩ (Below.refl _ _)
  | true =>
    have hr := Lib.hid (La.pfL_t (ys := La.sal xs) hq)
    have CS := Lib.hid (l05All_any B b cap w xs ho hq)
    rw [hq] at C
    clear hq ho
    go_enter Try.func53, Try.ntmps53
    go_wp2_with fail
    refine C.out.mono ?_
    rintro e w1 ⟨rfl, rfl⟩
    go_wp2_with fail
    refine CS.out.mono ?_
    rintro e w2 ⟨g, cap2, rfl, o2, b2⟩
    have O2 := Lib.hid o2
    have B2 := Lib.hid b2
    clear o2 b2
    go_wp2_with fail
    go_ret2
    exact RLC.yes ⟨rfl, hr.out⟩ O2.out B2.out
set_option maxHeartbeats 1600000 in
theorem afterHeat_any (g : Nat) (eg : ∀ args w, (callFunc g args).run Try.prog w = .ok (.enter g args) w) (f : Lay → Int → Lay × Int × Bool) (w : World) (v : Value) (xs : List Lay) (j : Int) (hv : LSl w v xs) (hl : xs.length ≤ 1048576)
    (hI : ∀ x l, La.Fits x → 0 ≤ l → 0 ≤ (f x l).2.1 ∧ (f x l).2.1 ≤ l)
    (hc : ∀ x l, La.Fits x → 0 ≤ l → l ≤ 100000000 → ∀ W, Calls Try.prog g #[.agg #[.int .i64 x.fo, .int .i64 x.ic, .int .i64 x.wa, .int .i64 x.de, .int .i64 x.dg, .int .i64 x.ha, .int .i64 x.ag], .int .i64 l] W fun e w' => e = .returned (.tuple #[.agg #[.int .i64 (f x l).1.fo, .int .i64 (f x l).1.ic, .int .i64 (f x l).1.wa, .int .i64 (f x l).1.de, .int .i64 (f x l).1.dg, .int .i64 (f x l).1.ha, .int .i64 (f x l).1.ag], .int .i64 (f x l).2.1, .bool (f x l).2.2]) ∧ Below W.heap.size W w') :
    Calls Try.prog 99 #[v, .int .i64 j, .func (.func g) #[] #[]] w (RLIC w (La.htL f xs j) (La.htR f xs j) (La.htC xs j)) := by
  have C := Lib.hid (implValidProfile_any w v xs hv hl)
  have CW := Lib.hid (fun W => within_any j 0 100000000 W)
  have CS := Lib.hid (fun a b W => statedCode_any a b W)
  have HV := Lib.hid hv
  cases hq : La.okP xs with
  | false =>
    have hr := Lib.hid (La.ht_1 (f := f) (j := j) hq)
    rw [hq] at C
    clear hq hv hc hI
    go_enter Try.func99, Try.ntmps99
    go_wp2_with fail
    refine C.out.mono ?_
    rintro e w1 ⟨rfl, b1⟩
    have B1 := Lib.hid b1
    clear b1
    go_wp2_with fail
    refine (CW.out _).mono ?_
    rintro e w2 ⟨rfl, rfl⟩
    go_wp2_with fail
    refine (CS.out _ _ _).mono ?_
    rintro e w2 ⟨rfl, rfl⟩
    rw [show stc false (Ar.inB 0 j 100000000) = 1 from rfl]
    go_wp2_with fail
    go_ret3
    exact RLIC.no hr.out B1.out
  | true =>
    obtain ⟨h16, hfit⟩ := (La.okP_iff xs).1 hq
    cases hj : Ar.inB 0 j 100000000 with
    | false =>
      have hr := Lib.hid (La.ht_2 (f := f) hq hj)
      rw [hq] at C
      rw [hj] at CW
      clear hq hv hc hI hj
      go_enter Try.func99, Try.ntmps99
      go_wp2_with fail
      refine C.out.mono ?_
      rintro e w1 ⟨rfl, b1⟩
      have B1 := Lib.hid b1
      clear b1
      go_wp2_with fail
      refine (CW.out _).mono ?_
      rintro e w2 ⟨rfl, rfl⟩
      go_wp2_with fail
      refine (CS.out _ _ _).mono ?_
      rintro e w2 ⟨rfl, rfl⟩
      rw [show stc true false = 2 from rfl]
      go_wp2_with fail
      go_ret3
      exact RLIC.no hr.out B1.out
    | true =>
      have hr := Lib.hid (La.ht_0 (f := f) hq hj)
      obtain ⟨j0, j1⟩ := La.inB_iff.1 hj
      have CF := Lib.hid (fun W h => fromTop_any g eg f (fun l _ => 0 ≤ l ∧ l ≤ 100000000) j W v xs h16 h ⟨j0, j1⟩
        (fun x hx l n hn h => by have := hI x l (hfit x hx) h.1; omega) (fun x hx l n hn h W => hc x l (hfit x hx) h.1 h.2 W))
      rw [hq] at C
      rw [hj] at CW
      clear hq hv hc hI hj hfit
      go_enter Try.func99, Try.ntmps99
      go_wp2_with fail
      refine C.out.mono ?_
      rintro e w1 ⟨rfl, b1⟩
      have B1 := Lib.hid b1
      clear b1
      go_wp2_with fail
      refine (CW.out _).mono ?_
      rintro e w2 ⟨rfl, rfl⟩
      go_wp2_with fail
      refine (CS.out _ _ _).mono ?_
      rintro e w2 ⟨rfl, rfl⟩
      rw [show stc true true = 0 from rfl]
      go_wp2_with fail
      refine (CF.out _ (HV.out.below B1.out)).mono ?_
      rintro e w3 ⟨rfl, o3, b3⟩
      have O3 := Lib.hid (o3.le B1.out.size)
      have B3 := Lib.hid (bt B1.out b3)
      clear o3 b3
      go_wp2_with fail
      go_ret3
      exact RLIC.yes hr.out O3.out B3.out
set_option maxHeartbeats 800000 in
theorem implWarmTop_any (w : World) (v : Value) (xs : List Lay) (j : Int) (ho : LAt w v xs) (hl : xs.length ≤ 1048576) :
    Calls Try.prog 45 #[v, .int .i64 j] w (RLIC w (La.htL La.wrm xs j) (La.htR La.wrm xs j) (La.htC xs j)) := by
  have C := Lib.hid (afterHeat_any 100 (enters_of Try.func100 (by kernel_rfl) rfl) La.wrm w v xs j ho.sl hl (fun x l hx h => (La.wrm_ok hx h).2) (fun x l hx h h' W => warmed_any x l W hx h h'))
  clear ho
  go_enter Try.func45, Try.ntmps45
  go_wp2_with fail
  refine C.out.mono ?_
  rintro e w1 ⟨u, rfl, o1, b1⟩
  have O1 := Lib.hid o1
  have B1 := Lib.hid b1
  clear o1 b1
  go_wp2_with fail
  go_ret3
  exact RLIC.yes ⟨rfl, rfl, rfl⟩ O1.out B1.out
set_option maxHeartbeats 800000 in
theorem implCoolTop_any (w : World) (v : Value) (xs : List Lay) (j : Int) (ho : LAt w v xs) (hl : xs.length ≤ 1048576) :
    Calls Try.prog 46 #[v, .int .i64 j] w (RLIC w (La.htL La.coo xs j) (La.htR La.coo xs j) (La.htC xs j)) := by
  have C := Lib.hid (afterHeat_any 101 (enters_of Try.func101 (by kernel_rfl) rfl) La.coo w v xs j ho.sl hl (fun x l hx h => (La.coo_ok hx h).2) (fun x l hx h h' W => cooled_any x l W hx h h'))
  clear ho
  go_enter Try.func46, Try.ntmps46
  go_wp2_with fail
  refine C.out.mono ?_
  rintro e w1 ⟨u, rfl, o1, b1⟩
  have O1 := Lib.hid o1
  have B1 := Lib.hid b1
  clear o1 b1
  go_wp2_with fail
  go_ret3
  exact RLIC.yes ⟨rfl, rfl, rfl⟩ O1.out B1.out
set_option maxHeartbeats 1600000 in
theorem implDrainProfile_any (w : World) (v : Value) (xs : List Lay) (ho : LAt w v xs) (hl : xs.length ≤ 1048576) :
    Calls Try.prog 47 #[v] w (RLIC w (La.pfL xs (La.top La.drn xs 0).1) (rv (La.okP xs) (La.top La.drn xs 0).2.1) (rc (La.okP xs) 1)) := by
  have C := Lib.hid (implValidProfile_any w v xs ho.sl hl)
  have HS := Lib.hid ho.sl
  obtain ⟨B, b, cap, rfl, ho⟩ := ho
  cases hq : La.okP xs with
  | false =>
    have hr := Lib.hid (La.pfL_f (ys := (La.top La.drn xs 0).1) hq)
    rw [hq] at C
    clear hq ho
    go_enter Try.func47, Try.ntmps47
    go_wp2_with fail
    refine C.out.mono ?_
    rintro e w1 ⟨rfl, b1⟩
    have B1 := Lib.hid b1
    clear b1
    go_wp2_with fail
    go_ret3
    exact RLIC.no ⟨rfl, hr.out, rfl⟩ B1.out
  | true =>
    obtain ⟨h16, hfit⟩ := (La.okP_iff xs).1 hq
    have hr := Lib.hid (La.pfL_t (ys := (La.top La.drn xs 0).1) hq)
    have CF := Lib.hid (fun W h => fromTop_any 103 (enters_of Try.func103 (by kernel_rfl) rfl) La.drn (fun l n => 0 ≤ l ∧ l ≤ 1000000 * (n : Int)) 0 W (.slice (some ⟨b, 0, none⟩) xs.length cap) xs h16 h ⟨Int.le_refl _, by omega⟩
        (fun x hx l n hn h => by have := La.drn_ok (hfit x hx) h.1; push_cast; omega) (fun x hx l n hn h W => drained_any x l W (hfit x hx) h.1 (by omega)))
    rw [hq] at C
    clear hq ho hfit
    go_enter Try.func47, Try.ntmps47
    go_wp2_with fail
    refine C.out.mono ?_
    rintro e w1 ⟨rfl, b1⟩
    have B1 := Lib.hid b1
    clear b1
    go_wp2_with fail
    refine (CF.out w1 (HS.out.below B1.out)).mono ?_
    rintro e w2 ⟨rfl, o2, b2⟩
    have O2 := Lib.hid (o2.le B1.out.size)
    have B2 := Lib.hid (bt B1.out b2)
    clear o2 b2
    go_wp2_with fail
    go_ret3
    exact RLIC.yes ⟨rfl, hr.out, rfl⟩ O2.out B2.out
set_option maxHeartbeats 1600000 in
theorem specWarmTop_any (w : World) (v : Value) (xs : List Lay) (j : Int) (ho : LAt w v xs) (hl : xs.length ≤ 1048576) :
    Calls Try.prog 55 #[v, .int .i64 j] w (RLIC w (La.htL La.wrm xs j) (La.htR La.wrm xs j) (La.htC xs j)) := by
  have C := Lib.hid (l03Ok_any w v xs ho.sl hl)
  have CJ := Lib.hid (fun W => l05Joules_any j W)
  obtain ⟨B, b, cap, rfl, ho⟩ := ho
  cases hq : La.okP xs with
  | false =>
    have hr := Lib.hid (La.ht_1 (f := La.wrm) (j := j) hq)
    rw [hq] at C
    clear hq ho
    go_enter Try.func55, Try.ntmps55
    go_wp2_with fail
    refine C.out.mono ?_
    rintro e w1 ⟨rfl, rfl⟩
    go_wp2_with fail
    go_ret3
    exact RLIC.no hr.out (Below.refl _ _)
  | true =>
    cases hj : Ar.inB 0 j 100000000 with
    | false =>
      have hr := Lib.hid (La.ht_2 (f := La.wrm) hq hj)
      rw [hq] at C
      rw [hj] at CJ
      clear hq ho hj
      go_enter Try.func55, Try.ntmps55
      go_wp2_with fail
      refine C.out.mono ?_
      rintro e w1 ⟨rfl, rfl⟩
      go_wp2_with fail
      refine (CJ.out _).mono ?_
      rintro e w2 ⟨rfl, rfl⟩
      go_wp2_with fail
      go_ret3
      exact RLIC.no hr.out (Below.refl _ _)
    | true =>
      have hr := Lib.hid (La.ht_0 (f := La.wrm) hq hj)
      obtain ⟨j0, j1⟩ := La.inB_iff.1 hj
      have CF := Lib.hid (l05Warm_any B b cap w xs j ho hq j0 j1)
      rw [hq] at C
      rw [hj] at CJ
      clear hq ho hj
      go_enter Try.func55, Try.ntmps55
      go_wp2_with fail
      refine C.out.mono ?_
      rintro e w1 ⟨rfl, rfl⟩
      go_wp2_with fail
      refine (CJ.out _).mono ?_
      rintro e w2 ⟨rfl, rfl⟩
      go_wp2_with fail
      refine CF.out.mono ?_
      rintro e w3 ⟨g, cap3, rfl, o3, b3⟩
      have O3 := Lib.hid o3
      have B3 := Lib.hid b3
      clear o3 b3
      go_wp2_with fail
      go_ret3
      exact RLIC.yes hr.out O3.out B3.out
set_option maxHeartbeats 1600000 in
theorem specCoolTop_any (w : World) (v : Value) (xs : List Lay) (j : Int) (ho : LAt w v xs) (hl : xs.length ≤ 1048576) :
    Calls Try.prog 56 #[v, .int .i64 j] w (RLIC w (La.htL La.coo xs j) (La.htR La.coo xs j) (La.htC xs j)) := by
  have C := Lib.hid (l03Ok_any w v xs ho.sl hl)
  have CJ := Lib.hid (fun W => l05Joules_any j W)
  obtain ⟨B, b, cap, rfl, ho⟩ := ho
  cases hq : La.okP xs with
  | false =>
    have hr := Lib.hid (La.ht_1 (f := La.coo) (j := j) hq)
    rw [hq] at C
    clear hq ho
    go_enter Try.func56, Try.ntmps56
    go_wp2_with fail
    refine C.out.mono ?_
    rintro e w1 ⟨rfl, rfl⟩
    go_wp2_with fail
    go_ret3
    exact RLIC.no hr.out (Below.refl _ _)
  | true =>
    cases hj : Ar.inB 0 j 100000000 with
    | false =>
      have hr := Lib.hid (La.ht_2 (f := La.coo) hq hj)
      rw [hq] at C
      rw [hj] at CJ
      clear hq ho hj
      go_enter Try.func56, Try.ntmps56
      go_wp2_with fail
      refine C.out.mono ?_
      rintro e w1 ⟨rfl, rfl⟩
      go_wp2_with fail
      refine (CJ.out _).mono ?_
      rintro e w2 ⟨rfl, rfl⟩
      go_wp2_with fail
      go_ret3
      exact RLIC.no hr.out (Below.refl _ _)
    | true =>
      have hr := Lib.hid (La.ht_0 (f := La.coo) hq hj)
      obtain ⟨j0, j1⟩ := La.inB_iff.1 hj
      have CF := Lib.hid (l05Cool_any B b cap w xs j ho hq j0 j1)
      rw [hq] at C
      rw [hj] at CJ
      clear hq ho hj
      go_enter Try.func56, Try.ntmps56
      go_wp2_with fail
      refine C.out.mono ?_
      rintro e w1 ⟨rfl, rfl⟩
      go_wp2_with fail
      refine (CJ.out _).mono ?_
      rintro e w2 ⟨rfl, rfl⟩
      go_wp2_with fail
      refine CF.out.mono ?_
      rintro e w3 ⟨g, cap3, rfl, o3, b3⟩
      have O3 := Lib.hid o3
      have B3 := Lib.hid b3
      clear o3 b3
      go_wp2_with fail
      go_ret3
      exact RLIC.yes hr.out O3.out B3.out
set_option maxHeartbeats 1600000 in
theorem specDrainProfile_any (w : World) (v : Value) (xs : List Lay) (ho : LAt w v xs) (hl : xs.length ≤ 1048576) :
    Calls Try.prog 57 #[v] w (RLIC w (La.pfL xs (La.top La.drn xs 0).1) (rv (La.okP xs) (La.top La.drn xs 0).2.1) (rc (La.okP xs) 1)) := by
  have C := Lib.hid (l03Ok_any w v xs ho.sl hl)
  obtain ⟨B, b, cap, rfl, ho⟩ := ho
  cases hq : La.okP xs with
  | false =>
    have hr := Lib.hid (La.pfL_f (ys := (La.top La.drn xs 0).1) hq)
    rw [hq] at C
    clear hq ho
    go_enter Try.func57, Try.ntmps57
    go_wp2_with fail
    refine C.out.mono ?_
    rintro e w1 ⟨rfl, rfl⟩
    go_wp2_with fail
    go_ret3
    exact RLIC.no ⟨rfl, hr.out, rfl⟩ (Below.refl _ _)
  | true =>
    have hr := Lib.hid (La.pfL_t (ys := (La.top La.drn xs 0).1) hq)
    have CF := Lib.hid (l05Drain_any B b cap w xs ho hq)
    rw [hq] at C
    clear hq ho
    go_enter Try.func57, Try.ntmps57
    go_wp2_with fail
    refine C.out.mono ?_
    rintro e w1 ⟨rfl, rfl⟩
    go_wp2_with fail
    refine CF.out.mono ?_
    rintro e w2 ⟨g, cap2, rfl, o2, b2⟩
    have O2 := Lib.hid o2
    have B2 := Lib.hid b2
    clear o2 b2
    go_wp2_with fail
    go_ret3
    exact RLIC.yes ⟨rfl, hr.out, rfl⟩ O2.out B2.out
end Go.Proofs.Ytfbfdiejffjbmaa

/-
  FastestAt by the program (chapter 14). No condition of its own.
-/
import Derived.Test.YtmieckchppfogaaGreatDoorAgR
import Derived.OwnWalk
namespace Go.Proofs.YtmieckchppfogaaGreatDoor
open Go.RowKit Go.Shelf
set_option linter.unusedVariables false
set_option maxRecDepth 100000

set_option maxHeartbeats 3200000 in
theorem implFastestAt_any (w : World) (v : Value) (xs : List Pth) (t : Int) (ho : PpAt w v xs) (hl : xs.length ≤ 1048576) :
    Calls Tryz.prog 7 #[v, .int .i64 t] w fun e w' => e = .returned (.tuple #[.int .i64 (Cd.vl (An.okB xs) (An.tg t) (An.be xs t (An.st xs t) : Int)), .int .i64 (Cd.vl (An.okB xs) (An.tg t) (An.spd (An.mo xs t (An.st xs t)))), .int .i64 (Cd.cd (An.okB xs) (An.tg t) 0)]) ∧ Below w.heap.size w w' := by
  have hv := ho.sl
  have HOW := Lib.hid ho
  obtain ⟨a, cap, rfl⟩ := hv.form
  clear ho
  have CP := Lib.hid (fun q W (hb : Below w.heap.size w W) => pathCode_any W _ xs q (hv.below hb) hl)
  have HV := Lib.hid hv
  have BR := Lib.hid (Below.refl w.heap.size w)
  have CT := Lib.hid (fun W => isTangent_any t W)
  clear hv
  cases h : An.okB xs with
  | false =>
    rw [h] at CP
    rw [Cd.cd_f, Cd.vl_f, Cd.vl_f]
    simp only [Cd.cd_f] at CP
    clear h HV HOW
    generalize An.tg t = q at *
    go_enter Tryz.func7, Tryz.ntmps7
    go_wp2_with fail
    refine (CT.out _).mono ?_
    rintro e w9 ⟨rfl, rfl⟩
    go_wp2_with fail
    refine (CP.out _ _ BR.out).mono ?_
    rintro e w1 ⟨rfl, b1⟩
    have B1 := Lib.hid (b1)
    clear b1
    go_wp2_with fail
    go_ret3
    exact ⟨rfl, B1.out⟩
  | true =>
    have o := An.okB_ok h
    have n2 := o.n2
    have n24 := o.n24
    obtain ⟨b, cap1, hn, hcap, P0⟩ := HOW.out.pts (by omega)
    simp only [Value.slice.injEq] at hn
    obtain ⟨rfl, -, rfl⟩ := hn
    have P := Lib.hid (fun W (hb : Below w.heap.size w W) => PtAt.below P0 hb)
    rw [h] at CP
    cases ht : An.tg t with
    | false =>
      rw [ht] at CT
      rw [Cd.cd_tf, Cd.vl_tf, Cd.vl_tf]
      have CP := Lib.hid (CP.out false)
      rw [Cd.cd_tf] at CP
      clear h HV P o P0 ht HOW
      go_enter Tryz.func7, Tryz.ntmps7
      go_wp2_with fail
      refine (CT.out _).mono ?_
      rintro e w9 ⟨rfl, rfl⟩
      go_wp2_with fail
      refine (CP.out _ BR.out).mono ?_
      rintro e w1 ⟨rfl, b1⟩
      have B1 := Lib.hid (b1)
      clear b1
      go_wp2_with fail
      go_ret3
      exact ⟨rfl, B1.out⟩
    | true =>
      obtain ⟨t1, t2⟩ := An.inB_of ht
      rw [ht] at CT
      have CP := Lib.hid (CP.out true)
      rw [Cd.cd_t] at CP
      rw [Cd.cd_t, Cd.vl_t, Cd.vl_t]
      have CS := Lib.hid (fun W (hb : Below w.heap.size w W) => slideOf_any W b cap xs (P.out W hb) hcap o t)
      have MK := Lib.hid (fun W (hb : Below w.heap.size w W) a5 n5 cap5 (h : Sl W (.slice a5 n5 cap5) (An.es xs (xs.length - 1))) => slide_mk W b 0 cap xs (P.out W hb) o t t1 t2 a5 n5 cap5 h)
      have HE : Hid (0 ≤ (An.be xs t (An.st xs t) : Int) ∧ (An.be xs t (An.st xs t) : Int) ≤ An.la xs ∧ 0 ≤ An.hi xs t (An.be xs t (An.st xs t) : Int) ∧ An.hi xs t (An.be xs t (An.st xs t) : Int) = An.mo xs t (An.st xs t)) := Lib.hid (by
        have h1 := An.be_le xs t (An.st xs t)
        have h2 := An.st_le xs t
        have h3 := o.last
        have h4 := An.hi_be o t
        have h5 := An.mo_nn xs t (An.st xs t)
        exact ⟨by omega, by omega, by omega, h4⟩)
      clear h HV P o P0 ht HOW t1 t2 hcap
      go_enter Tryz.func7, Tryz.ntmps7
      go_wp2_with fail
      refine (CT.out _).mono ?_
      rintro e w9 ⟨rfl, rfl⟩
      go_wp2_with fail
      refine (CP.out _ BR.out).mono ?_
      rintro e w1 ⟨rfl, b1⟩
      have B1 := Lib.hid (b1)
      clear b1
      go_wp2_with fail
      refine (CS.out _ B1.out).mono ?_
      rintro e w2 ⟨u, rfl, o2, b2⟩
      obtain ⟨a5, cap5, hu⟩ := o2.sl.form
      subst hu
      have B2 := Lib.hid (bt B1.out b2)
      have SD := Lib.hid (MK.out _ B2.out a5 _ cap5 o2.sl)
      clear b2 o2
      generalize (An.es xs (xs.length - 1)).length = n5 at *
      have SW := Whole.new w2 52 #[.iface 59 (.agg #[.int .i64 (1000 * (An.nd xs 0).he), .int .i64 t]), .iface 57 (.slice (some ⟨b, 0, none⟩) xs.length cap), .slice a5 n5 cap5]
      have B4 := Lib.hid (bt B2.out ((Below.refl w2.heap.size w2).alloc (Nat.le_refl _) (.cells #[.iface 59 (.agg #[.int .i64 (1000 * (An.nd xs 0).he), .int .i64 t]), .iface 57 (.slice (some ⟨b, 0, none⟩) xs.length cap), .slice a5 n5 cap5] 52)))
      have SD4 := Lib.hid (SD.out.below ((Below.refl w2.heap.size w2).alloc (Nat.le_refl _) (.cells #[.iface 59 (.agg #[.int .i64 (1000 * (An.nd xs 0).he), .int .i64 t]), .iface 57 (.slice (some ⟨b, 0, none⟩) xs.length cap), .slice a5 n5 cap5] 52)))
      have KW := Lib.hid (fun W (hb : Below (w2.alloc (.cells #[.iface 59 (.agg #[.int .i64 (1000 * (An.nd xs 0).he), .int .i64 t]), .iface 57 (.slice (some ⟨b, 0, none⟩) xs.length cap), .slice a5 n5 cap5] 52)).heap.size (w2.alloc (.cells #[.iface 59 (.agg #[.int .i64 (1000 * (An.nd xs 0).he), .int .i64 t]), .iface 57 (.slice (some ⟨b, 0, none⟩) xs.length cap), .slice a5 n5 cap5] 52)) W) => (⟨(SW.all hb).at_ 0, (SW.all hb).at_ 1, (SW.all hb).at_ 2⟩ : W.cell? ⟨w2.heap.size, 0, none⟩ = some (.iface 59 (.agg #[.int .i64 (1000 * (An.nd xs 0).he), .int .i64 t])) ∧ W.cell? ⟨w2.heap.size, 1, none⟩ = some (.iface 57 (.slice (some ⟨b, 0, none⟩) xs.length cap)) ∧ W.cell? ⟨w2.heap.size, 2, none⟩ = some (.slice a5 n5 cap5)))
      obtain ⟨k0, k1, k2⟩ := KW.out _ (Below.refl _ _)
      clear SW
      go_wp2_with fail
      refine (highest_any _ _ _ _ _ _ _ _ xs t SD4.out).mono ?_
      rintro e w5 ⟨rfl, b5⟩
      have B5 := Lib.hid (bt B4.out b5)
      have SD5 := Lib.hid (SD4.out.below b5)
      obtain ⟨j0, j1, j2⟩ := KW.out _ b5
      clear b5
      go_wp2_with fail
      have CSP := speedAt_any _ _ _ _ _ _ _ _ xs t SD5.out (An.be xs t (An.st xs t) : Int) HE.out.1 HE.out.2.1 HE.out.2.2.1
      rw [HE.out.2.2.2] at CSP
      refine CSP.mono ?_
      rintro e w6 ⟨rfl, b6⟩
      have B6 := Lib.hid (bt B5.out b6)
      clear b6 CSP
      go_wp2_with fail
      go_ret3
      exact ⟨rfl, B6.out⟩
end Go.Proofs.YtmieckchppfogaaGreatDoor

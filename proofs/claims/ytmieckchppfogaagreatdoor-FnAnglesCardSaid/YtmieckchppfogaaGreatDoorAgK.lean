/-
  Where something first holds of a mass that runs along a path, where it stops and how fast it is: by the program (chapter 14). No condition of its own.
-/
import Derived.Test.YtmieckchppfogaaGreatDoorAgJ
import Derived.Test.YtmieckchppfogaaGreatDoorRoot
import Derived.Test.YtmieckchppfogaaGreatDoorAgD
namespace Go.Proofs.YtmieckchppfogaaGreatDoor
open Go.RowKit Go.Shelf
set_option linter.unusedVariables false
set_option maxRecDepth 100000

theorem ret_ib {a b : Int} {c d : Bool} (h : a = b) (h' : c = d) : Ending.returned (.tuple #[.int .i64 a, .bool c]) = .returned (.tuple #[.int .i64 b, .bool d]) := by rw [h, h']
set_option maxHeartbeats 1600000 in
theorem there_any (w : World) (b2 b3 g : Nat) (lb : Array Value) (tE tG : TypeId) (xE xG : Value) (a : Option Addr) (n cap : Nat) (d y : Int) (r : Bool) (eg : ∀ args w, (callFunc g args).run Tryz.prog w = .ok (.enter g args) w)
    (k0 : w.cell? ⟨b2, 0, none⟩ = some (.iface tE xE)) (k1 : w.cell? ⟨b2, 1, none⟩ = some (.iface tG xG)) (k2 : w.cell? ⟨b2, 2, none⟩ = some (.slice a n cap)) (k3 : w.cell? ⟨b3, 0, none⟩ = some (.func (.func g) #[] lb))
    (HA : ∀ W, Below w.heap.size w W → Calls Tryz.prog 45 #[.agg #[.iface tE xE, .iface tG xG, .slice a n cap], .int .i64 d] W fun e w' => e = .returned (.int .i64 y) ∧ Below W.heap.size W w')
    (HG : ∀ W, Below w.heap.size w W → Calls Tryz.prog g (#[.int .i64 y] ++ lb) W fun e w' => e = .returned (.bool r) ∧ Below W.heap.size W w') :
    Calls Tryz.prog 67 (#[.int .i64 d] ++ #[.pointer (some ⟨b3, 0, none⟩), .pointer (some ⟨b2, 0, none⟩)]) w fun e w' => e = .returned (.bool r) ∧ Below w.heap.size w w' := by
  have l2 := World.block_lt_of_cell? w _ k0
  have l3 := World.block_lt_of_cell? w _ k3
  have K := Lib.hid (fun W (hb : Below w.heap.size w W) => (⟨(hb.cell (p := ⟨b2, 0, none⟩) l2).trans k0, (hb.cell (p := ⟨b2, 1, none⟩) l2).trans k1, (hb.cell (p := ⟨b2, 2, none⟩) l2).trans k2, (hb.cell (p := ⟨b3, 0, none⟩) l3).trans k3⟩ : W.cell? ⟨b2, 0, none⟩ = some (.iface tE xE) ∧ W.cell? ⟨b2, 1, none⟩ = some (.iface tG xG) ∧ W.cell? ⟨b2, 2, none⟩ = some (.slice a n cap) ∧ W.cell? ⟨b3, 0, none⟩ = some (.func (.func g) #[] lb)))
  have CA := Lib.hid HA
  have CG := Lib.hid HG
  clear HA HG l2 l3
  go_enter Tryz.func67, Tryz.ntmps67
  go_wp2_with fail
  go_region_held3 (fun w' => w'.cell? ⟨b2, 0, none⟩ = some (.iface tE xE) ∧ w'.cell? ⟨b2, 1, none⟩ = some (.iface tG xG) ∧ w'.cell? ⟨b2, 2, none⟩ = some (.slice a n cap) ∧ w'.cell? ⟨b3, 0, none⟩ = some (.func (.func g) #[] lb)) (go_keep)
    (first
      | (go_at_call 45; refine (CA.out _ (by first | exact below_drewW _ 1 | exact Below.refl _ _)).mono ?_; rintro e wA ⟨rfl, bA⟩; have bA0 : Below w.heap.size w wA := (by first | exact bt (below_drewW _ 1) bA | exact bA); obtain ⟨a0, a1, a2, a3⟩ := K.out wA bA0)
      | (go_at_fn g; refine (CG.out _ bA0).mono ?_; rintro e wB ⟨rfl, bB⟩; have bB0 : Below w.heap.size w wB := bt bA0 bB; obtain ⟨b0, b1, b2, b3⟩ := K.out wB bB0))
  all_goals
    go_wp2_with fail
    go_ret
    exact ⟨rfl, bB0⟩
set_option maxHeartbeats 800000 in
theorem before_any (w : World) (b6 g : Nat) (lb : Array Value) (i : Nat) (r : Bool) (hi : i ≤ 100000) (eg : ∀ args w, (callFunc g args).run Tryz.prog w = .ok (.enter g args) w) (k0 : w.cell? ⟨b6, 0, none⟩ = some (.func (.func g) #[] lb))
    (HG : Calls Tryz.prog g (#[.int .i64 ((i : Int) + 1)] ++ lb) w fun e w' => e = .returned (.bool r) ∧ Below w.heap.size w w') :
    Calls Tryz.prog 69 (#[.int .i64 (i : Int)] ++ #[.pointer (some ⟨b6, 0, none⟩)]) w fun e w' => e = .returned (.bool r) ∧ Below w.heap.size w w' := by
  have CG := Lib.hid HG
  clear HG
  go_enter Tryz.func69, Tryz.ntmps69
  go_wp2_with fail
  go_at_fn g
  refine CG.out.mono ?_
  rintro e w1 ⟨rfl, b1⟩
  have B1 := Lib.hid b1
  clear b1
  go_wp2_with fail
  go_ret
  exact ⟨rfl, B1.out⟩
/-- a mass that runs along a path: the ends of legs can be read, and how high the line is can be asked -/
structure Slide (w : World) (tE tG : TypeId) (xE xG : Value) (a : Option Addr) (n cap : Nat) (xs : List Pth) (t : Int) : Prop where
  ok : An.Ok xs
  t0 : 0 ≤ t
  sl : Sl w (.slice a n cap) (An.es xs (xs.length - 1))
  ask : ∀ W, Below w.heap.size w W → ∀ d : Int, 0 ≤ d → d ≤ An.la xs → Calls Tryz.prog 45 #[.agg #[.iface tE xE, .iface tG xG, .slice a n cap], .int .i64 d] W fun e w' => e = .returned (.int .i64 (An.hi xs t d)) ∧ Below W.heap.size W w'
theorem Slide.below {w w1 : World} {tE tG : TypeId} {xE xG : Value} {a : Option Addr} {n cap : Nat} {xs : List Pth} {t : Int} (h : Slide w tE tG xE xG a n cap xs t) (hb : Below w.heap.size w w1) : Slide w1 tE tG xE xG a n cap xs t :=
  ⟨h.ok, h.t0, h.sl.below hb, fun W hW => h.ask W (bt hb hW)⟩
namespace An
/-- how many whole metres there are before p first holds -/
def fw (xs : List Pth) (p : Int → Bool) : Nat := fi (fun i => p ((i : Int) + 1)) (la xs).toNat
def fwV (xs : List Pth) (p : Int → Bool) : Int := if fw xs p < (la xs).toNat then (fw xs p : Int) + 1 else 0
def fwB (xs : List Pth) (p : Int → Bool) : Bool := decide (fw xs p < (la xs).toNat)
end An
set_option maxHeartbeats 3200000 in
theorem firstWhere_any (w : World) (tE tG : TypeId) (xE xG : Value) (a : Option Addr) (n cap : Nat) (xs : List Pth) (t : Int) (hS : Slide w tE tG xE xG a n cap xs t) (g : Nat) (lb : Array Value) (eg : ∀ args w, (callFunc g args).run Tryz.prog w = .ok (.enter g args) w) (q : Int → Bool)
    (hL : An.Leg xs (fun d => q (An.hi xs t d)))
    (HG : ∀ W, Below w.heap.size w W → ∀ d : Int, 1 ≤ d → d ≤ An.la xs → Calls Tryz.prog g (#[.int .i64 (An.hi xs t d)] ++ lb) W fun e w' => e = .returned (.bool (q (An.hi xs t d))) ∧ Below W.heap.size W w') :
    Calls Tryz.prog 43 #[.agg #[.iface tE xE, .iface tG xG, .slice a n cap], .func (.func g) #[] lb] w fun e w' => e = .returned (.tuple #[.int .i64 (An.fwV xs (fun d => q (An.hi xs t d))), .bool (An.fwB xs (fun d => q (An.hi xs t d)))]) ∧ Below w.heap.size w w' := by
  have o := hS.ok
  have hla := o.last
  have n2 := o.n2
  have n24 := o.n24
  have egT := enters_of Tryz.func67 (by kernel_rfl) rfl
  have egB := enters_of Tryz.func69 (by kernel_rfl) rfl
  obtain ⟨W0, hW0⟩ : ∃ W, W = ((w.alloc (.cells #[.iface tE xE, .iface tG xG, .slice a n cap] 52)).alloc (.cells #[.func (.func g) #[] lb] 46)).alloc (.cells #[.func (.func 67) #[] #[.pointer (some ⟨w.heap.size + 1, 0, none⟩), .pointer (some ⟨w.heap.size, 0, none⟩)]] 46) := ⟨_, rfl⟩
  have K1 : Whole W0 w.heap.size 52 #[.iface tE xE, .iface tG xG, .slice a n cap] := by rw [hW0]; exact Whole.alloc (Whole.alloc (Whole.new _ _ _) _) _
  have K2 : Whole W0 (w.heap.size + 1) 46 #[.func (.func g) #[] lb] := by
    have := Whole.new (w.alloc (.cells #[.iface tE xE, .iface tG xG, .slice a n cap] 52)) 46 #[.func (.func g) #[] lb]
    rw [hW0]; refine Whole.alloc ?_ _; simpa using this
  have K3 : Whole W0 (w.heap.size + 1 + 1) 46 #[.func (.func 67) #[] #[.pointer (some ⟨w.heap.size + 1, 0, none⟩), .pointer (some ⟨w.heap.size, 0, none⟩)]] := by
    have := Whole.new ((w.alloc (.cells #[.iface tE xE, .iface tG xG, .slice a n cap] 52)).alloc (.cells #[.func (.func g) #[] lb] 46)) 46 #[.func (.func 67) #[] #[.pointer (some ⟨w.heap.size + 1, 0, none⟩), .pointer (some ⟨w.heap.size, 0, none⟩)]]
    rw [hW0]; simpa using this
  have HB : Hid (Below w.heap.size w W0) := Lib.hid (by
    rw [hW0]
    exact (((Below.refl w.heap.size w).alloc (Nat.le_refl _) _).alloc (by simp) _).alloc (by simp; omega) _)
  have THERE := Lib.hid (fun W (hb : Below W0.heap.size W0 W) (d : Int) (h1 : 1 ≤ d) (h2 : d ≤ An.la xs) => there_any W w.heap.size (w.heap.size + 1) g lb tE tG xE xG a n cap d (An.hi xs t d) (q (An.hi xs t d)) eg ((K1.all hb).at_ 0) ((K1.all hb).at_ 1) ((K1.all hb).at_ 2) ((K2.all hb).at_ 0)
    (fun V hV => hS.ask V (bt HB.out (bt hb hV)) d (by omega) h2) (fun V hV => HG V (bt HB.out (bt hb hV)) d h1 h2))
  have IX := Lib.hid (indexFuncI_any 67 #[.pointer (some ⟨w.heap.size + 1, 0, none⟩), .pointer (some ⟨w.heap.size, 0, none⟩)] egT (fun _ W => Below W0.heap.size W0 W) (fun k => q (An.hi xs t (An.ed xs k))) W0 (.slice a n cap) (An.es xs (xs.length - 1)) (by rw [An.es_len]; omega) (Below.refl _ _) (hS.sl.below HB.out) (fun _ W hW => hS.sl.below (bt HB.out hW))
    (fun k hk W hW => by
      have hk2 : k < xs.length := by rw [An.es_len] at hk; omega
      have e := An.ed_bd o hk2
      rw [An.es_at hk]
      exact (THERE.out W hW (An.ed xs k) e.1 e.2.1).mono fun _ _ ⟨h, b⟩ => ⟨h, bt hW b⟩))
  have BEF := Lib.hid (fun W (hb : Below W0.heap.size W0 W) (i : Nat) (h2 : (i : Int) + 1 ≤ An.la xs) => before_any W (w.heap.size + 1 + 1) 67 #[.pointer (some ⟨w.heap.size + 1, 0, none⟩), .pointer (some ⟨w.heap.size, 0, none⟩)] i (q (An.hi xs t ((i : Int) + 1))) (by omega) egT ((K3.all hb).at_ 0) (THERE.out W hb ((i : Int) + 1) (by omega) h2))
  have SE := Lib.hid (fun W (hb : Below W0.heap.size W0 W) k (hk : k < xs.length) (hf : ∀ j, j < k → q (An.hi xs t (An.ed xs j)) = false) => searchV_any 69 #[.pointer (some ⟨w.heap.size + 1 + 1, 0, none⟩)] egB ((An.ed xs k).toNat - 1) (fun i => q (An.hi xs t ((i : Int) + 1))) W (by have := An.ed_bd o hk; omega)
    (fun V i hV hi => BEF.out V (bt hb hV) i (by have := An.ed_bd o hk; omega))
    (fun a c hac hc ha => An.fw_mono o hL hk hf (d := (a : Int) + 1) (e := (c : Int) + 1) (by omega) (by omega) (by have := An.ed_bd o hk; omega) ha))
  have KK := Lib.hid (fun W (hb : Below W0.heap.size W0 W) => (⟨(K1.all hb).at_ 2, (K3.all hb).at_ 0⟩ : W.cell? ⟨w.heap.size, 2, none⟩ = some (.slice a n cap) ∧ W.cell? ⟨w.heap.size + 1 + 1, 0, none⟩ = some (.func (.func 67) #[] #[.pointer (some ⟨w.heap.size + 1, 0, none⟩), .pointer (some ⟨w.heap.size, 0, none⟩)])))
  have NO := Lib.hid (fun (h : ∀ k, k < xs.length → q (An.hi xs t (An.ed xs k)) = false) => (show An.fw xs (fun d => q (An.hi xs t d)) = (An.la xs).toNat from An.fw_none o hL h))
  have YES := Lib.hid (fun k (hk : k < xs.length) (hp : q (An.hi xs t (An.ed xs k)) = true) m (hm : m ≤ (An.ed xs k).toNat - 1) (h1 : ∀ i : Nat, i < m → q (An.hi xs t ((i : Int) + 1)) = false) (h2 : m < (An.ed xs k).toNat - 1 → q (An.hi xs t ((m : Int) + 1)) = true) => An.fw_some o hk (p := fun d => q (An.hi xs t d)) hp hm h1 h2)
  have EB := Lib.hid (fun k (hk : k < xs.length) => An.ed_bd o hk)
  have SL := Lib.hid (fun W (hb : Below W0.heap.size W0 W) => hS.sl.below (bt HB.out hb))
  have ESL := Lib.hid (An.es_len xs (xs.length - 1))
  obtain ⟨k2, k3⟩ := KK.out W0 (Below.refl _ _)
  have HLA := Lib.hid hla
  have EV : Hid (An.fwV xs (fun d => q (An.hi xs t d)) = if An.fw xs (fun d => q (An.hi xs t d)) < (An.la xs).toNat then (An.fw xs (fun d => q (An.hi xs t d)) : Int) + 1 else 0) := Lib.hid rfl
  have EBB : Hid (An.fwB xs (fun d => q (An.hi xs t d)) = decide (An.fw xs (fun d => q (An.hi xs t d)) < (An.la xs).toNat)) := Lib.hid rfl
  have EAT := Lib.hid (fun k (h : k < (An.es xs (xs.length - 1)).length) => An.es_at h)
  clear K1 K2 K3 THERE BEF HG hL hS o eg egT egB hla
  subst hW0
  go_enter Tryz.func43, Tryz.ntmps43
  go_wp2_with fail
  refine IX.out.mono ?_
  rintro e w1 (⟨k, hk, hq, hf, rfl, b1⟩ | ⟨hf, rfl, b1⟩)
  · have hk2 : k < xs.length := by have := ESL.out; omega
    obtain ⟨b', off', cap', hn, hbl, hc⟩ := (SL.out _ b1).atI hk
    simp only [Value.slice.injEq] at hn
    obtain ⟨rfl, rfl, rfl⟩ := hn
    have c0 := hc k hk
    rw [EAT.out k hk] at c0
    have hkz : (k : Int) < ((An.es xs (xs.length - 1)).length : Int) := by omega
    obtain ⟨e1, e2, e3⟩ := EB.out k hk2
    have hla := HLA.out
    have m1 : IntKind.i64.wrap (An.ed xs k - 1) = (((An.ed xs k).toNat - 1 : Nat) : Int) := by
      have : An.ed xs k - 1 = (((An.ed xs k).toNat - 1 : Nat) : Int) := by omega
      rw [this]; exact wrap_in (by omega) (by omega)
    have S := Lib.hid (SE.out _ b1 k hk2 hf)
    have Y := Lib.hid (YES.out k hk2 hq)
    obtain ⟨k2, k3⟩ := KK.out _ b1
    have hed : Hid (((An.ed xs k).toNat - 1 : Nat) ≤ 20000) := Lib.hid (by omega)
    have B1 := Lib.hid (bt HB.out b1)
    clear IX SE YES NO hf b1 hc EB SL EAT hq e3
    generalize ((An.ed xs k).toNat - 1 : Nat) = m0 at *
    generalize An.ed xs k = ek at *
    generalize (An.es xs (xs.length - 1)).length = n at *
    go_wp2_with fail
    refine S.out.mono ?_
    rintro e w2 ⟨m, hm, rfl, h1, h2, b2⟩
    have B2 := Lib.hid (bt B1.out b2)
    have Y2 := Lib.hid (Y.out m hm h1 (fun h => h2 m (Nat.le_refl _) h))
    have hmb : (m : Int) ≤ 20000 := by have := hed.out; omega
    have V0 : Hid (An.fwV xs (fun d => q (An.hi xs t d)) = (m : Int) + 1) := Lib.hid (by
      have e : An.fw xs (fun d => q (An.hi xs t d)) = m := Y2.out.1
      rw [EV.out, e, if_pos Y2.out.2])
    have V1 : Hid (An.fwB xs (fun d => q (An.hi xs t d)) = true) := Lib.hid (by
      have e : An.fw xs (fun d => q (An.hi xs t d)) = m := Y2.out.1
      rw [EBB.out, e]; exact decide_eq_true Y2.out.2)
    clear Y Y2 h1 h2 b2 S EV EBB e1 e2 hla m1
    go_wp2_with fail
    go_ret2
    exact ⟨ret_ib V0.out.symm V1.out.symm, B2.out⟩
  · have hno := Lib.hid (NO.out (fun k hk => hf k (by rw [ESL.out]; omega)))
    have B1 := Lib.hid (bt HB.out b1)
    have V0 : Hid (An.fwV xs (fun d => q (An.hi xs t d)) = 0) := Lib.hid (by rw [EV.out, hno.out, if_neg (Nat.lt_irrefl _)])
    have V1 : Hid (An.fwB xs (fun d => q (An.hi xs t d)) = false) := Lib.hid (by rw [EBB.out, hno.out]; exact decide_eq_false (Nat.lt_irrefl _))
    clear IX SE YES NO hf b1 EV EBB hno
    go_wp2_with fail
    go_ret2
    exact ⟨ret_ib V0.out.symm V1.out.symm, B1.out⟩
theorem stopLit_any (y : Int) (w : World) : Calls Tryz.prog 44 (#[.int .i64 y] ++ #[]) w fun e w' => e = .returned (.bool (decide (y ≤ 0))) ∧ Below w.heap.size w w' := by
  go_enter Tryz.func44, Tryz.ntmps44
  go_wp2_with fail
  go_ret
  exact ⟨rfl, Below.refl _ _⟩
set_option maxHeartbeats 1600000 in
theorem stop_any (w : World) (tE tG : TypeId) (xE xG : Value) (a : Option Addr) (n cap : Nat) (xs : List Pth) (t : Int) (hS : Slide w tE tG xE xG a n cap xs t) :
    Calls Tryz.prog 22 #[.agg #[.iface tE xE, .iface tG xG, .slice a n cap]] w fun e w' => e = .returned (.tuple #[.int .i64 (An.sV xs t), .bool (decide (An.st xs t < (An.la xs).toNat))]) ∧ Below w.heap.size w w' := by
  obtain ⟨W1, hW1⟩ : ∃ W, W = w.alloc (.cells #[.iface tE xE, .iface tG xG, .slice a n cap] 52) := ⟨_, rfl⟩
  have HB : Hid (Below w.heap.size w W1) := Lib.hid (by rw [hW1]; exact (Below.refl _ _).alloc (Nat.le_refl _) _)
  have K1 : Whole W1 w.heap.size 52 #[.iface tE xE, .iface tG xG, .slice a n cap] := by rw [hW1]; exact Whole.new _ _ _
  have C := Lib.hid (firstWhere_any W1 tE tG xE xG a n cap xs t (hS.below HB.out) 44 #[] (enters_of Tryz.func44 (by kernel_rfl) rfl) (fun y => decide (y ≤ 0)) (An.leg_st hS.ok hS.t0) (fun W _ d _ _ => stopLit_any _ W))
  have E1 : An.fwV xs (fun d => decide (An.hi xs t d ≤ 0)) = An.sV xs t := rfl
  have E2 : An.fwB xs (fun d => decide (An.hi xs t d ≤ 0)) = decide (An.st xs t < (An.la xs).toNat) := rfl
  simp only [E1, E2] at C
  clear E1 E2
  have k0 := K1.at_ 0
  have k1 := K1.at_ 1
  have k2 := K1.at_ 2
  clear K1 hS
  subst hW1
  generalize An.sV xs t = s at *
  generalize decide (An.st xs t < (An.la xs).toNat) = bb at *
  go_enter Tryz.func22, Tryz.ntmps22
  go_wp2_with fail
  refine C.out.mono ?_
  rintro e w1 ⟨rfl, b1⟩
  have B1 := Lib.hid (bt HB.out b1)
  clear b1
  go_wp2_with fail
  go_ret2
  exact ⟨rfl, B1.out⟩
set_option maxHeartbeats 1600000 in
theorem speedAt_any (w : World) (tE tG : TypeId) (xE xG : Value) (a : Option Addr) (n cap : Nat) (xs : List Pth) (t : Int) (hS : Slide w tE tG xE xG a n cap xs t) (d : Int) (h1 : 0 ≤ d) (h2 : d ≤ An.la xs) (h3 : 0 ≤ An.hi xs t d) :
    Calls Tryz.prog 24 #[.agg #[.iface tE xE, .iface tG xG, .slice a n cap], .int .i64 d] w fun e w' => e = .returned (.int .i64 (An.spd (An.hi xs t d))) ∧ Below w.heap.size w w' := by
  obtain ⟨W1, hW1⟩ : ∃ W, W = w.alloc (.cells #[.iface tE xE, .iface tG xG, .slice a n cap] 52) := ⟨_, rfl⟩
  have HB : Hid (Below w.heap.size w W1) := Lib.hid (by rw [hW1]; exact (Below.refl _ _).alloc (Nat.le_refl _) _)
  have K1 : Whole W1 w.heap.size 52 #[.iface tE xE, .iface tG xG, .slice a n cap] := by rw [hW1]; exact Whole.new _ _ _
  have h4 := An.hi_le hS.ok (t := t) hS.t0 h1 h2
  obtain ⟨s1, s2⟩ := An.spd_bd h3 h4
  have CA := Lib.hid (fun W (hb : Below W1.heap.size W1 W) => hS.ask W (bt HB.out hb) d h1 h2)
  have CD := Lib.hid (fun W => divP_any (1962 * An.hi xs t d) 10 W (by omega) (by omega) (by omega) (by omega))
  have CR := Lib.hid (fun W => implRootOf_any (Ar.dr (1962 * An.hi xs t d) 10) W (by omega) (by omega))
  have E : Hid (rt (Ar.dr (1962 * An.hi xs t d) 10) = An.spd (An.hi xs t d)) := Lib.hid rfl
  have k0 := K1.at_ 0
  have k1 := K1.at_ 1
  have k2 := K1.at_ 2
  clear K1 hS h1 h2
  subst hW1
  generalize Ar.dr (1962 * An.hi xs t d) 10 = qq at *
  generalize An.hi xs t d = y at *
  go_enter Tryz.func24, Tryz.ntmps24
  go_wp2_with fail
  refine (CA.out _ (Below.refl _ _)).mono ?_
  rintro e w1 ⟨rfl, b1⟩
  have B1 := Lib.hid (bt HB.out b1)
  clear b1
  go_wp2_with fail
  refine (CD.out _).mono ?_
  rintro e w2 ⟨rfl, rfl⟩
  go_wp2_with fail
  refine (CR.out _).mono ?_
  rintro e w3 ⟨rfl, rfl⟩
  go_wp2_with fail
  go_ret
  exact ⟨ret_int E.out, B1.out⟩
end Go.Proofs.YtmieckchppfogaaGreatDoor

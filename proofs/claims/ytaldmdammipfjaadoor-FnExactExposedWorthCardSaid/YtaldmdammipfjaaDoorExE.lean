/-
  The assets in each cell (chapter 15): the map that the program makes. The condition: all assets are as they must be.
-/
import Derived.Test.YtaldmdammipfjaaDoorExB
import Derived.Test.YtaldmdammipfjaaDoorExM
import Derived.Maps.Own
import Derived.Maps.OwnOps
import Derived.Maps.OwnSet
import Derived.Maps.Views
namespace Go.Proofs.YtaldmdammipfjaaDoor
open Go.RowKit Go.Shelf Go.Maps
set_option linter.unusedVariables false
set_option maxRecDepth 100000
def kC (c : Int) : Lit := .int .i64 c
theorem isKeyC (c : Int) : WideAt.IsKeyLit (kC c) := True.intro
theorem kC_ne {a b : Int} (h : a ≠ b) : kC a ≠ kC b := fun e => h (by unfold kC at e; injection e)
/-- the map in a block: what each key has, where there is nothing 0 -/
def SetsIn (w : World) (b n : Nat) (F : Int → Nat) : Prop := ∃ D : DataW Unit, w.ownsMap Tryd.prog 2 (plainElem (H := Unit) Tryd.prog 73) b n D ∧ IsMap D ∧ ∀ c, D.atKey (kC c) (.lit (.int .u64 0)) = .lit (.int .u64 (F c : Int))
theorem lawC : Keyed Tryd.prog 2 := int_keyed Tryd.underlying2
theorem zeroC (w : World) : (zeroValue 73).run Tryd.prog w = .ok (.int .u64 0) w := by kernel_rfl
theorem SetsIn.all {w w' : World} {b n : Nat} {F : Int → Nat} (h : SetsIn w b n F) (hb : Below w.heap.size w w') : SetsIn w' b n F := by
  obtain ⟨D, h1, h2, h3⟩ := h
  have hlt := World.ownsMap.lt h1
  obtain ⟨es, clock, hb', F', hs, hD⟩ := h1
  exact ⟨D, ⟨es, clock, (hb.block b hlt).trans hb', F', hs, hD⟩, h2, h3⟩
theorem SetsIn.lt {w : World} {b n : Nat} {F : Int → Nat} (h : SetsIn w b n F) : b < w.heap.size := by
  obtain ⟨D, h1, -, -⟩ := h; exact World.ownsMap.lt h1
theorem keyC {c : Int} (h : 0 ≤ c ∧ c < 64) : keyOf Tryd.prog 2 (.int .i64 c) = some (kC c) := keyOf_int_mk Tryd.underlying2 (WalkArith.wf_i64 (by omega))
set_option maxHeartbeats 6400000 in
theorem assetsByCell_any (w : World) (v : Value) (xs : List Ast) (hv : AsSl w v xs) (hl : xs.length ≤ 12) (hce : ∀ x ∈ xs, x.ce.length ≤ 64 ∧ ∀ y ∈ x.ce, 0 ≤ y ∧ y < 64) :
    Calls Tryd.prog 44 #[v] w fun e w' => e = .returned (.map (some w.heap.size)) ∧ (∃ n, SetsIn w' w.heap.size n (Ex.fP (Ex.prK xs xs.length))) ∧ Below w.heap.size w w' := by
  have hm0 : ∀ W : World, (Instr.makeMap 70 none).run Tryd.prog W = .ok (.map (some W.heap.size)) (W.alloc (.map #[] 0)) := fun W => by
    simp [Instr.makeMap]
  have hm1 := hm0 w
  have WFU : Hid (∀ x : Nat, x < 18446744073709551616 → (Lit.int .u64 (x : Int)).wf = true) := Lib.hid (fun x h => by simp [Lit.wf, IntKind.min, IntKind.max, IntKind.signed, IntKind.bits]; omega)
  obtain ⟨a, cap, rfl⟩ := hv.form
  have HV := Lib.hid hv
  have HCE := Lib.hid hce
  have M0 : Hid (SetsIn (w.alloc (.map #[] 0)) w.heap.size 0 (Ex.fP (Ex.prK xs 0))) := Lib.hid ⟨_, World.ownsMap_made _ _ _ _, isMap_empty, fun c => rfl⟩
  have B0 := Lib.hid ((Below.refl w.heap.size w).alloc (Nat.le_refl _) (.map #[] 0))
  clear hv hce hm0
  go_enter Tryd.func44, Tryd.ntmps44
  go_wp2
  go_loopw [4, 7, 11] (fun _ _ i wr => ∃ k n : Nat, k ≤ xs.length ∧ i = .int .i64 k ∧ n ≤ 64 * k ∧ Hid (SetsIn wr w.heap.size n (Ex.fP (Ex.prK xs k))) ∧ Hid (Below w.heap.size w wr)) (fun _ _ i _ => xs.length - (intOf i).toNat)
  case atStart => exact ⟨0, 0, Nat.zero_le _, rfl, Nat.le_refl _, M0, B0⟩
  case round =>
    obtain ⟨k, n, hk, rfl, hn64, hm, hb⟩ := hrel
    clear M0 B0
    by_cases hlt : k < xs.length
    · have hltz : (k : Int) < (xs.length : Int) := by omega
      obtain ⟨b', off, cap1, hn, hbl0, hc⟩ := HV.out.known hlt
      simp only [Value.slice.injEq] at hn
      obtain ⟨rfl, -, rfl⟩ := hn
      obtain ⟨c0, c1, c2, -⟩ := (hc k hlt).all hb.out
      have hbl : b' < wr.heap.size := Nat.lt_of_lt_of_le hbl0 hb.out.size
      have csl := (hc k hlt).sl
      obtain ⟨ea, ecap, he⟩ := csl.form
      rw [he] at c1
      have HS := Lib.hid (he ▸ csl : Sl w (.slice ea xs[k].ce.length ecap) xs[k].ce)
      obtain ⟨x64, xin⟩ := HCE.out xs[k] (List.getElem_mem hlt)
      have XIN := Lib.hid xin
      have hca := Ex.ceAt_in hlt
      have N1 := Lib.hid ((Below.refl wr.heap.size wr).alloc (Nat.le_refl _) (.cells #[.string ⟨xs[k].id.toArray⟩, .slice ea xs[k].ce.length ecap, .int .i64 xs[k].wo] 48))
      have M1 : Hid (SetsIn (wr.alloc (.cells #[.string ⟨xs[k].id.toArray⟩, .slice ea xs[k].ce.length ecap, .int .i64 xs[k].wo] 48)) w.heap.size n (Ex.fP (Ex.prJ xs k 0))) := Lib.hid (by rw [Ex.prJ_zero]; exact hm.out.all N1.out)
      have PS : Hid (∀ j (h : j < xs[k].ce.length), Ex.prJ xs k (j + 1) = Ex.prJ xs k j ++ [(k, xs[k].ce[j])]) := Lib.hid (fun j h => by
        have h2 : j < (Ex.ceAt xs k).length := by rw [hca]; exact h
        rw [Ex.prJ_snoc h2]
        have e : (Ex.ceAt xs k)[j] = xs[k].ce[j] := by congr 1
        rw [e])
      have PE : Hid (Ex.prJ xs k xs[k].ce.length = Ex.prK xs (k + 1)) := Lib.hid (Ex.prJ_all (by rw [hca]; exact Nat.le_refl _))
      have PL : Hid (∀ j y, Ex.fP (Ex.prJ xs k j) y < 18446744073709551616) := Lib.hid (fun j y => Ex.fP_lt y (Ex.prJ_lt (by omega)))
      have hblt : w.heap.size < wr.heap.size := hm.out.lt
      clear hc csl he xin hca hm
      generalize xs[k].ce = ce at *
      go_wp2_with fail
      go_loopw [7, 19] (fun _ iv wq => ∃ (j : Nat), j ≤ ce.length ∧ iv = .int .i64 (j : Int) ∧ Hid (SetsIn wq w.heap.size (n + j) (Ex.fP (Ex.prJ xs k j))) ∧ Hid (Below w.heap.size w wq) ∧ Hid (wr.grownBy wq (some w.heap.size))) (fun _ iv _ => ce.length - (intOf iv).toNat)
      case atStart => exact ⟨0, Nat.zero_le _, rfl, M1, Lib.hid (hb.out.alloc hb.out.size _), Lib.hid (only_of_below N1.out _)⟩
      case round =>
        obtain ⟨j, hj, rfl, hmj, hbj, hgj⟩ := hrel
        clear M1
        by_cases hjl : j < ce.length
        · have hjz : (j : Int) < (ce.length : Int) := by omega
          obtain ⟨eb, eo, ec1, hn2, hebl, hec⟩ := (HS.out.below hbj.out).atI hjl
          simp only [Value.slice.injEq] at hn2
          obtain ⟨rfl, -, rfl⟩ := hn2
          have e1 := hec j hjl
          have hyb := XIN.out ce[j] (List.getElem_mem hjl)
          have PSj := PS.out j hjl
          clear hec
          generalize ce[j] = y at *
          obtain ⟨D, hown, hisM, hat⟩ := hmj.out
          have HOWN := Lib.hid hown
          have HM := Lib.hid hisM
          have HAT := Lib.hid hat
          have HKEY := Lib.hid (keyC hyb)
          have HF := Lib.hid (PL.out j y)
          have HF2 : Hid (Ex.fP (Ex.prJ xs k j) y ||| 2 ^ k < 18446744073709551616) := Lib.hid (by
            have h := PL.out (j + 1) y
            rw [PSj, Ex.fP_snoc, if_pos rfl] at h
            exact h)
          have HP : Hid (∀ z, Ex.fP (Ex.prJ xs k (j + 1)) z = if y = z then Ex.fP (Ex.prJ xs k j) z ||| 2 ^ k else Ex.fP (Ex.prJ xs k j) z) := Lib.hid (fun z => by rw [PSj, Ex.fP_snoc])
          have HCW := Lib.hid (fun W => with_any (Ex.fP (Ex.prJ xs k j) y) k W (by simpa using HF.out) (by omega))
          clear hown hisM hat PSj hmj
          obtain ⟨F2, hF2⟩ : ∃ F, Ex.fP (Ex.prJ xs k (j + 1)) = F := ⟨_, rfl⟩
          have HFE := Lib.hid hF2
          rw [hF2] at HP
          clear hF2
          generalize Ex.fP (Ex.prJ xs k j) = F1 at *
          go_wp2_with (at_lookup; refine wpList_lookup_own_int _ rfl _ _ 70 rfl 2 73 .u64 lawC Tryd.underlying70 Tryd.underlying73 (zeroC _) w.heap.size (n + j) D rfl HOWN.out _ (kC y) rfl HKEY.out ?_; intro c hac hwc; obtain rfl : c = (F1 y : Int) := (by have h := HAT.out y; rw [hac] at h; injection h with h; injection h))
          clear hac hwc
          refine (HCW.out _).mono ?_
          rintro e w4 ⟨rfl, rfl⟩
          generalize hS : F1 y ||| 2 ^ k = s2 at *
          have HS2 := Lib.hid hS
          clear hS
          go_wp2_with (at_mapUpdate; refine wpList_mapUpdate_own _ rfl _ _ _ 70 rfl 2 73 lawC Tryd.underlying70 _ w.heap.size (n + j) _ rfl HOWN.out (by unfold maxLen; omega) _ _ _ rfl rfl HKEY.out _ [] (plainElem_int Tryd.underlying73 (WFU.out s2 HF2.out)) ?_; intro w5 hown5 hgrow5; have HO5 := Lib.hid hown5; have HG5 := Lib.hid hgrow5; clear hown5 hgrow5)
          have NM : Hid (SetsIn w5 w.heap.size (n + (j + 1)) F2) := Lib.hid ⟨_, HO5.out, HM.out.put _ _, fun z => by
            rw [HP.out z]
            by_cases hz : y = z
            · subst hz
              rw [if_pos rfl, atKey_put_same HM.out (isKeyC _), HS2.out]
            · rw [if_neg hz, atKey_put_other (kC_ne (fun e => hz e.symm))]
              exact HAT.out z⟩
          have NB := Lib.hid (hbj.out.grown HG5.out hbj.out.size (fun j hj => by cases hj; exact Nat.le_refl _))
          have NG := Lib.hid (only_trans hgj.out HG5.out)
          have NM := NM.out
          rw [← HFE.out] at NM
          have NM := Lib.hid NM
          clear HO5 HG5 hbj hgj HFE
          go_wp2_with fail
          exact ⟨⟨j + 1, by omega, by go_num, NM, NB, NG⟩, by simp only [intOf]; omega⟩
        · have hjz : ¬ (j : Int) < (ce.length : Int) := by omega
          have hje : Hid (Ex.prJ xs k j = Ex.prK xs (k + 1)) := Lib.hid (by rw [← PE.out]; congr 1; omega)
          have NM := hmj.out
          rw [hje.out] at NM
          have NM := Lib.hid NM
          clear hje hmj
          go_wp2_with fail
          exact ⟨⟨k + 1, n + j, by omega, by go_num, by omega, NM, hbj⟩, by simp only [intOf]; omega⟩
    · have hltz : ¬ (k : Int) < (xs.length : Int) := by omega
      have hkz : Hid (k = xs.length) := Lib.hid (by omega)
      have NM : Hid (SetsIn wr w.heap.size n (Ex.fP (Ex.prK xs xs.length))) := Lib.hid (by rw [← hkz.out]; exact hm.out)
      clear hkz hm
      go_wp2
      go_ret
      exact ⟨rfl, ⟨n, NM.out⟩, hb.out⟩
end Go.Proofs.YtaldmdammipfjaaDoor

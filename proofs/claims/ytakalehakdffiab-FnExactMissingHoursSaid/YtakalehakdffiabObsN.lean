/-
  Snow by its hours in a map (chapter 4): the map that the program makes, and what it answers. No condition of its own.
-/
import Derived.Test.YtakalehakdffiabObsG
import Derived.Maps.Own
import Derived.Maps.OwnOps
import Derived.Maps.OwnSet
import Derived.Maps.Views
namespace Go.Proofs.Ytakalehakdffiab
open Go.RowKit Go.Shelf Go.Maps
set_option linter.unusedVariables false
set_option maxRecDepth 100000

/-- an hour as a key, a height as an element -/
def kH (h : Int) : Lit := .int .i64 h
def mapOf (H : Type) (xs : List Obs) : DataW H := xs.foldl (fun m x => m.put (kH x.ho) (.lit (.int .i64 x.sn))) (.map [])
theorem mapOf_snoc (H : Type) {xs : List Obs} {k : Nat} (h : k < xs.length) : mapOf H (xs.take (k + 1)) = (mapOf H (xs.take k)).put (kH xs[k].ho) (.lit (.int .i64 xs[k].sn)) := by
  unfold mapOf; rw [List.take_succ_eq_append_getElem h, List.foldl_append]; rfl
theorem isMap_of (H : Type) : ∀ (xs : List Obs) (m : DataW H), IsMap m → IsMap (xs.foldl (fun m x => m.put (kH x.ho) (.lit (.int .i64 x.sn))) m)
  | [], m, h => h
  | x :: xs, m, h => isMap_of H xs _ (h.put _ _)
theorem isMap_mapOf (H : Type) (xs : List Obs) : IsMap (mapOf H xs) := isMap_of H xs _ ⟨_, rfl⟩
theorem isKey (h : Int) : WideAt.IsKeyLit (kH h) := True.intro
theorem kH_ne {a b : Int} (h : a ≠ b) : kH a ≠ kH b := fun e => h (by unfold kH at e; injection e)
theorem has_mapOf (H : Type) (xs : List Obs) (h : Int) : Maps.has (mapOf H xs) (kH h) = Ob.has xs h := by
  have e : ∀ n, n ≤ xs.length → Maps.has (mapOf H (xs.take n)) (kH h) = Ob.has (xs.take n) h := by
    intro n
    induction n with
    | zero => intro _; rfl
    | succ n ih =>
      intro hn
      rw [mapOf_snoc H (show n < xs.length by omega), Ob.has_take (show n < xs.length by omega)]
      by_cases hh : xs[n].ho = h
      · rw [hh, has_put_same (isMap_mapOf H _) (isKey h)]; simp
      · rw [has_put_other (kH_ne (fun e => hh e.symm)), ih (by omega)]
        have : (xs[n].ho == h) = false := beq_eq_false_iff_ne.2 hh
        rw [this, Bool.or_false]
  have := e xs.length (Nat.le_refl _)
  rwa [List.take_length] at this
/-- where hours differ, each hour's height is found -/
theorem at_mapOf (H : Type) {xs : List Obs} (hu : Ob.up (-1) xs = true) {i : Nat} (hi : i < xs.length) (z : DataW H) : (mapOf H xs).atKey (kH xs[i].ho) z = .lit (.int .i64 xs[i].sn) := by
  have e : ∀ n, n ≤ xs.length → i < n → (mapOf H (xs.take n)).atKey (kH xs[i].ho) z = .lit (.int .i64 xs[i].sn) := by
    intro n
    induction n with
    | zero => intro _ h; omega
    | succ n ih =>
      intro hn h
      rw [mapOf_snoc H (show n < xs.length by omega)]
      rcases Nat.lt_or_ge i n with hlt | hge
      · have := Ob.up_lt hu hlt (show n < xs.length by omega)
        rw [atKey_put_other (kH_ne (by omega)), ih (by omega) hlt]
      · obtain rfl : i = n := by omega
        rw [atKey_put_same (isMap_mapOf H _) (isKey _)]
  have := e xs.length (Nat.le_refl _) hi
  rwa [List.take_length] at this
/-- the map of all in a block -/
def MapIn (H : Type) (w : World) (b : Nat) (n : Nat) (xs : List Obs) : Prop := w.ownsMap Try.prog 2 (plainElem (H := H) Try.prog 2) b n (mapOf H xs)
theorem law64 : Keyed Try.prog 2 := int_keyed Try.underlying2
theorem zero64 (w : World) : (zeroValue 2).run Try.prog w = .ok (.int .i64 0) w := by kernel_rfl
theorem MapIn.all {H : Type} {w w' : World} {b n : Nat} {xs : List Obs} (h : MapIn H w b n xs) (hb : Below w.heap.size w w') : MapIn H w' b n xs := by
  have hlt := World.ownsMap.lt h
  obtain ⟨es, clock, hb', F, hs, hD⟩ := h
  exact ⟨es, clock, (hb.block b hlt).trans hb', F, hs, hD⟩
set_option maxHeartbeats 1600000 in
theorem snowByHour_any (H : Type) (w : World) (v : Value) (xs : List Obs) (hv : ObSl w v xs) (hl : xs.length ≤ 48) (hf : ∀ x ∈ xs, Ob.Fits x) :
    Calls Try.prog 58 #[v] w fun e w' => e = .returned (.map (some w.heap.size)) ∧ MapIn H w' w.heap.size xs.length xs ∧ Below w.heap.size w w' := by
  have hmm := @run_makeMap Try.prog
  have hmh : ∀ (n : Nat) (W : World), (Instr.makeMap 73 (some (.int .i64 (n : Int)))).run Try.prog W = .ok (.map (some W.heap.size)) (W.alloc (.map #[] 0)) := fun n W => by
    simp [Instr.makeMap, run_underlying Try.underlying73]; rfl
  have hm0 := hmh xs.length
  obtain ⟨a, cap, rfl⟩ := hv.form
  have HV := Lib.hid hv
  have HF := Lib.hid hf
  clear hv hf hmh hmm
  go_enter Try.func58, Try.ntmps58
  go_wp2
  go_loopw [11] (fun i wr => ∃ k : Nat, k ≤ xs.length ∧ i = .int .i64 k ∧ Hid (MapIn H wr w.heap.size k (xs.take k)) ∧ Hid (Below w.heap.size w wr)) (fun i _ => xs.length - (intOf i).toNat)
  case atStart => exact ⟨0, Nat.zero_le _, rfl, Lib.hid (World.ownsMap_made _ _ _ _), Lib.hid ((Below.refl _ _).alloc (Nat.le_refl _) _)⟩
  case round =>
    obtain ⟨k, hk, rfl, hm, hb⟩ := hrel
    by_cases hlt : k < xs.length
    · have hltz : (k : Int) < (xs.length : Int) := by omega
      obtain ⟨b, off, cap1, hn, hbl, hcc⟩ := (HV.out.below hb.out).at_ hlt
      simp only [Value.slice.injEq] at hn
      obtain ⟨rfl, -, rfl⟩ := hn
      obtain ⟨c0, c1, c2, c3⟩ := hcc k hlt
      have ft := HF.out _ (List.getElem_mem hlt)
      have hkey : keyOf Try.prog 2 (.int .i64 xs[k].ho) = some (kH xs[k].ho) := keyOf_int_mk Try.underlying2 (by have := ft.h1; have := ft.h2; exact WalkArith.wf_i64 (by omega))
      have hwf : (Lit.int .i64 xs[k].sn).wf = true := by have := ft.s1; have := ft.s2; exact WalkArith.wf_i64 (by omega)
      have hsn := mapOf_snoc H hlt
      have HM := Lib.hid (fun o => World.ownsMap.alloc hm.out o)
      have HB := Lib.hid (fun o => hb.out.alloc hb.out.size o)
      have HK := Lib.hid (And.intro hkey hwf)
      have HS := Lib.hid hsn
      clear hcc ft hkey hwf hsn
      go_wp2_with (at_mapUpdate; refine wpList_mapUpdate_own _ rfl _ _ _ 73 rfl 2 2 law64 Try.underlying73 _ w.heap.size k _ rfl (HM.out _) (by unfold maxLen; omega) _ _ _ rfl rfl HK.out.1 _ [] (plainElem_int Try.underlying2 HK.out.2) ?_; intro w1 hown1 hgrow1; have HO := Lib.hid hown1; have HG := Lib.hid hgrow1; clear hown1 hgrow1)
      exact ⟨⟨k + 1, by omega, by go_num, Lib.hid (by unfold MapIn; rw [HS.out]; exact HO.out), Lib.hid ((HB.out _).grown HG.out (HB.out _).size (fun j hj => by cases hj; exact Nat.le_refl _))⟩, by simp only [intOf]; omega⟩
    · have hltz : ¬ (k : Int) < (xs.length : Int) := by omega
      have hkn : k = xs.length := by omega
      subst hkn
      go_wp2
      go_ret
      exact ⟨rfl, by have := hm.out; rwa [List.take_length] at this, hb.out⟩
end Go.Proofs.Ytakalehakdffiab

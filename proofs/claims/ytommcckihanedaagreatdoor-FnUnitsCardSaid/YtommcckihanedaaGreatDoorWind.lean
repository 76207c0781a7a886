/-
  BeaufortOf and WindName of chapter 2, by the program and by the model. The program's tables hold what its text lays.
-/
import Derived.Test.YtommcckihanedaaGreatDoorUnits
import Derived.Lib.LaidTab
import Derived.LaidSub
import Derived.Laws.AppendOwn
import Derived.Below
import Derived.WalkSmall
import Derived.Shelf.Abstract
import Derived.Lib.SmallJoins
import Derived.Deep.QuietTactic
import Derived.BigQuiet
namespace Go.Proofs.YtommcckihanedaaGreatDoor
open Go.RowKit Go.Shelf
set_option linter.unusedVariables false

theorem wbt {w w1 w2 : World} (h1 : Below w.heap.size w w1) (h2 : Below w1.heap.size w1 w2) : Below w.heap.size w w2 := h1.trans (h2.mono h1.size)
/-- the speeds at which the numbers of wind begin -/
def speeds : List Int := [30, 160, 340, 550, 800, 1080, 1390, 1720, 2080, 2450, 2850, 3270]
def Speeds (w : World) : Prop := ∀ (i : Nat) (z : Int), speeds[i]? = some z → w.cell? ⟨0, i, none⟩ = some (.int .i64 z)
theorem Speeds.below {w w1 : World} (h : Speeds w) (hb : Below w.heap.size w w1) : Speeds w1 := fun i z hz =>
  (hb.cell (p := ⟨0, i, none⟩) (World.block_lt_of_cell? w _ (h i z hz))).trans (h i z hz)
/-- how strong wind is -/
def bft (s : Int) : Int := ((speeds.filter fun z => decide (z ≤ s)).length : Nat)
set_option maxHeartbeats 800000 in
theorem bftLit_any (i : Nat) (z s : Int) (c : Nat) (w : World) (hS : Speeds w) (hi : i < 12) (hz : speeds[i]? = some z) (hc : w.cell? ⟨c, 0, none⟩ = some (.int .i64 s)) :
    Calls Tryz.prog 36 #[.int .i64 i, .pointer (some ⟨c, 0, none⟩)] w fun e w' => e = .returned (.bool (decide (s < z))) ∧ ∃ n, w' = w.drewN n := by
  have h1 := hS i z hz
  have hi2 : (i : Int) < 12 := by omega
  clear hS hz
  go_enter Tryz.func36, Tryz.ntmps36
  go_wp2_with fail
  go_quiet (fail)
  go_wp2
  go_ret
  exact ⟨rfl, _, rfl⟩
theorem speeds_sorted : speeds.Pairwise (· ≤ ·) := by decide
theorem speeds_mono {a b : Nat} {x y : Int} (h : a ≤ b) (ha : speeds[a]? = some x) (hb : speeds[b]? = some y) : x ≤ y := by
  obtain ⟨la, ea⟩ := List.getElem?_eq_some_iff.1 ha
  obtain ⟨lb, eb⟩ := List.getElem?_eq_some_iff.1 hb
  rcases Nat.lt_or_ge a b with hl | hl
  · have := (List.pairwise_iff_getElem.1 speeds_sorted) a b la lb hl
    rw [ea, eb] at this; exact this
  · have : a = b := by omega
    subst this
    rw [ea] at eb; omega
theorem bft_of {s : Int} {i : Nat} (hi : i ≤ 12) (h1 : ∀ (t : Nat) (z : Int), t < i → speeds[t]? = some z → z ≤ s) (h2 : ∀ (t : Nat) (z : Int), i ≤ t → speeds[t]? = some z → s < z) : bft s = i := by
  unfold bft
  have e : speeds = speeds.take i ++ speeds.drop i := (List.take_append_drop i speeds).symm
  have f1 : (speeds.take i).filter (fun z => decide (z ≤ s)) = speeds.take i := by
    rw [List.filter_eq_self]
    intro z hz
    obtain ⟨t, ht, rfl⟩ := List.getElem_of_mem hz
    rw [List.length_take] at ht
    have : speeds[t]? = some (speeds.take i)[t] := by
      rw [List.getElem_take, List.getElem?_eq_getElem]
    simpa using h1 t _ (by omega) this
  have f2 : (speeds.drop i).filter (fun z => decide (z ≤ s)) = [] := by
    rw [List.filter_eq_nil_iff]
    intro z hz
    obtain ⟨t, ht, rfl⟩ := List.getElem_of_mem hz
    rw [List.length_drop] at ht
    have : speeds[i + t]? = some (speeds.drop i)[t] := by
      rw [List.getElem_drop, List.getElem?_eq_getElem]
    have h3 := h2 (i + t) _ (by omega) this
    simp only [decide_eq_true_eq]; omega
  rw [e, List.filter_append, f1, f2, List.append_nil, List.length_take]
  have : speeds.length = 12 := rfl
  omega
set_option maxHeartbeats 1600000 in
theorem search_any (w : World) (c : Nat) (s : Int) (hS : Speeds w) (hc : w.cell? ⟨c, 0, none⟩ = some (.int .i64 s)) :
    Calls Tryz.prog 35 #[.int .i64 12, .func (.func 36) #[] #[.pointer (some ⟨c, 0, none⟩)]] w fun e w' => e = .returned (.int .i64 (bft s)) ∧ ∃ n, w' = w.drewN n := by
  have C : Hid (∀ (n m : Nat) (z : Int), m < 12 → speeds[m]? = some z → Calls Tryz.prog 36 #[.int .i64 m, .pointer (some ⟨c, 0, none⟩)] (w.drewN n) fun e w' => e = .returned (.bool (decide (s < z))) ∧ ∃ k, w' = (w.drewN n).drewN k) :=
    Lib.hid (fun n m z hm hz => bftLit_any m z s c _ (fun i z h => by simpa using hS i z h) hm hz (by simpa using hc))
  have eg := enters_of Tryz.func36 (by kernel_rfl) rfl
  clear hS hc
  go_enter Tryz.func35, Tryz.ntmps35
  go_wp2_with fail
  go_loopw [5, 6] (fun iv jv wr => ∃ i j : Nat, iv = .int .i64 i ∧ jv = .int .i64 j ∧ i ≤ j ∧ j ≤ 12 ∧ Hid (∀ (t : Nat) (z : Int), t < i → speeds[t]? = some z → z ≤ s) ∧ Hid (∀ (t : Nat) (z : Int), j ≤ t → speeds[t]? = some z → s < z) ∧ (∃ n, wr = w.drewN n)) (fun iv jv _ => (intOf jv - intOf iv).toNat)
  case atStart => exact ⟨0, 12, rfl, rfl, by omega, by omega, Lib.hid (fun t z h => absurd h (Nat.not_lt_zero _)), Lib.hid (fun t z h hz => by have := (List.getElem?_eq_some_iff.1 hz).1; have e : speeds.length = 12 := rfl; omega), 0, rfl⟩
  case round =>
    obtain ⟨i, j, rfl, rfl, hij, hj, hA, hB, n, rfl⟩ := hrel
    by_cases hlt : i < j
    · obtain ⟨m, hm⟩ : ∃ m : Nat, ((i : Int) + j) / 2 = m := ⟨(i + j) / 2, by omega⟩
      have m1 : i ≤ m := by omega
      have m2 : m < j := by omega
      have hm12 : m < speeds.length := by have e : speeds.length = 12 := rfl; omega
      have hz := List.getElem?_eq_getElem hm12
      have HM := Lib.hid hm
      generalize speeds[m] = z at hz
      by_cases hs : s < z
      · have hB' : Hid (∀ (t : Nat) (y : Int), m ≤ t → speeds[t]? = some y → s < y) := Lib.hid (fun t y ht hy => by have := speeds_mono ht hz hy; omega)
        have hd := C.out n m z (by omega) hz
        rw [decide_eq_true hs] at hd
        have D := Lib.hid hd
        clear hz hm hm12 hd
        go_wp2_with fail
        rw [HM.out]
        refine D.out.mono ?_
        rintro e w1 ⟨rfl, k, rfl⟩
        go_wp2_with fail
        exact ⟨⟨i, m, rfl, rfl, by omega, by omega, hA, hB', _, rfl⟩, by simp only [intOf]; omega⟩
      · have hA' : Hid (∀ (t : Nat) (y : Int), t < m + 1 → speeds[t]? = some y → y ≤ s) := Lib.hid (fun t y ht hy => by have := speeds_mono (show t ≤ m by omega) hy hz; omega)
        have hd := C.out n m z (by omega) hz
        rw [decide_eq_false hs] at hd
        have D := Lib.hid hd
        clear hz hm hm12 hd
        go_wp2_with fail
        rw [HM.out]
        refine D.out.mono ?_
        rintro e w1 ⟨rfl, k, rfl⟩
        go_wp2_with fail
        exact ⟨⟨m + 1, j, by go_num, rfl, by omega, by omega, hA', hB, _, rfl⟩, by simp only [intOf]; omega⟩
    · have hji : j = i := by omega
      have HR : Hid (bft s = i) := Lib.hid (bft_of (by omega) hA.out (by rw [← hji]; exact hB.out))
      clear hji
      go_wp2_with fail
      go_ret
      exact ⟨ret_int HR.out.symm, _, rfl⟩
set_option maxHeartbeats 800000 in
theorem implBeaufortOf_any (s : Int) (w : World) (hS : Speeds w) :
    Calls Tryz.prog 15 #[.int .i64 s] w fun e w' => e = .returned (.tuple #[.int .i64 (rv (Ar.inB 0 s 100000) (bft s)), .int .i64 (rc (Ar.inB 0 s 100000) 2)]) ∧ Below w.heap.size w w' := by
  have hb : Below w.heap.size w (w.alloc (.cells #[.int .i64 s] 2)) := (Below.refl _ _).alloc (Nat.le_refl _) _
  have C := Lib.hid (search_any _ w.heap.size s (hS.below hb) (cell_of_row _ w.heap.size 0 _ _ (0, 0) (heap_alloc_new w (.cells #[.int .i64 s] 2))))
  have HB := Lib.hid hb
  clear hS hb
  rcases in_cases 0 s 100000 with ⟨h1, h2, hi⟩ | ⟨-, hi⟩
  · rw [hi]
    go_enter Tryz.func15, Tryz.ntmps15
    go_wp2_with (go_at_call 21; refine (within_any _ _ _ _).mono ?_; rintro e w' ⟨rfl, rfl⟩)
    refine C.out.mono ?_
    rintro e w1 ⟨rfl, n, rfl⟩
    go_wp2_with fail
    go_ret2
    exact ⟨rfl, below_drewN HB.out _⟩
  · rw [hi]
    go_enter Tryz.func15, Tryz.ntmps15
    go_wp2_with (go_at_call 21; refine (within_any _ _ _ _).mono ?_; rintro e w' ⟨rfl, rfl⟩)
    go_ret2
    exact ⟨rfl, HB.out⟩
theorem gSpeeds : Tryz.prog.globalNamed "loop.example/g01013/impl.beaufortSpeeds" = some 0 := by kernel_rfl
theorem tSpeeds : (Tryz.prog.globals[0]?).map (·.type) = some 60 := by kernel_rfl
theorem cSpeeds : Tryz.prog.cellsOf 60 = 12 := by kernel_rfl
theorem cSpeed1 : Tryz.prog.cellsOf 2 = 1 := by kernel_rfl
theorem speeds_of {l : List (String × DataW Unit)} {w : World} (h : laidMet Tryz.prog l w) (hf : (l.filter fun x => x.1 == "loop.example/g01013/impl.beaufortSpeeds") = [("loop.example/g01013/impl.beaufortSpeeds", Lib.tabData .i64 speeds)]) : Speeds w := by
  have h' := laidMet.filter (fun x => x.1 == "loop.example/g01013/impl.beaufortSpeeds") h
  rw [hf] at h'
  have t := Lib.tabIs_of_head (rest := []) gSpeeds tSpeeds Tryz.underlying60 Tryz.underlying2 cSpeed1 cSpeeds h'
  intro i z hz
  have hi : i < speeds.length := (List.getElem?_eq_some_iff.1 hz).1
  have := Lib.TabIs.cell t gSpeeds i hi
  rw [List.getElem?_eq_getElem hi] at hz
  simp only [Option.some.injEq] at hz
  rw [this, List.getD_eq_getElem?_getD, List.getElem?_eq_getElem hi, Option.getD_some, hz]
end Go.Proofs.YtommcckihanedaaGreatDoor

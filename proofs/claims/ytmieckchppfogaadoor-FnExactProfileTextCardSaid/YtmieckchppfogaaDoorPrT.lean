/-
  The text of a profile, by the model and by the program. No condition of its own but the library's table of powers of ten.
-/
import Derived.Test.YtmieckchppfogaaDoorFind
import Derived.Test.YtmieckchppfogaaDoorReadL
namespace Go.Proofs.YtmieckchppfogaaDoor
open Go.RowKit Go.ChangeShapes Go.WideShapes Go.Deep
set_option linter.unusedVariables false
set_option maxRecDepth 100000

namespace La
/-- a layer's text -/
def tl (x : Lay) : List UInt8 := lt (lv x)
/-- the text of the first k layers -/
def pt (xs : List Lay) (k : Nat) : List UInt8 := Lib.join ((xs.take k).map tl) [59]
/-- a profile's text -/
def ptx (xs : List Lay) : List UInt8 := if okP xs = true then (if xs.length = 0 then [45] else pt xs xs.length) else []
theorem pt_zero (xs : List Lay) : pt xs 0 = [] := rfl
theorem pt_one {xs : List Lay} (h : 0 < xs.length) : pt xs 1 = tl xs[0] := by
  unfold pt; rw [List.take_succ_eq_append_getElem h]; simp [Lib.join_one]
theorem pt_succ {xs : List Lay} {k : Nat} (h : k < xs.length) (hk : 0 < k) : pt xs (k + 1) = pt xs k ++ [59] ++ tl xs[k] := by
  unfold pt
  rw [List.take_succ_eq_append_getElem h, List.map_append]
  exact join_snoc [59] _ _ (by intro e; rw [List.map_eq_nil_iff, List.take_eq_nil_iff] at e; rcases e with e | e; omega; simp [e] at h)
theorem fit_lv {x : Lay} (h : okL x = true) : fitB (lv x) = true := by
  have f := (okL_iff x).1 h
  obtain ⟨f1, f2, f3, f4, f5, f6, f7, f8, f9, f10, f11, f12, f13, f14⟩ := f
  unfold fitB okV Ar.inB lv
  simp
  omega
theorem bd_lv {x : Lay} (h : okL x = true) : ∀ z ∈ lv x, -9223372036854775808 ≤ z ∧ z ≤ 9223372036854775807 := fit_bd (fit_lv h)
theorem lt_lv {x : Lay} (h : okL x = true) : ltext (lv x) = tl x := by unfold ltext tl; rw [if_pos (fit_lv h)]
theorem tl_len {x : Lay} (h : okL x = true) : (tl x).length ≤ 147 := by
  unfold tl lt
  rw [if_neg (by simp [lv])]
  exact pre_len (bd_lv h) 7 (by simp [lv])
end La
/-- seven numbers that have just been laid one after the other -/
theorem sl_seven (w : World) (x : Lay) (t : TypeId) : Sl (w.alloc (.cells #[.int .i64 x.fo, .int .i64 x.ic, .int .i64 x.wa, .int .i64 x.de, .int .i64 x.dg, .int .i64 x.ha, .int .i64 x.ag] t)) (.slice (some ⟨w.heap.size, 0, none⟩) 7 7) (La.lv x) := by
  refine Or.inr ⟨w.heap.size, 0, 7, rfl, by simp, ?_⟩
  have h := Whole.new w t #[.int .i64 x.fo, .int .i64 x.ic, .int .i64 x.wa, .int .i64 x.de, .int .i64 x.dg, .int .i64 x.ha, .int .i64 x.ag]
  intro j z hj
  match j, hj with
  | 0, hj => cases hj; exact h.at_ 0
  | 1, hj => cases hj; exact h.at_ 1
  | 2, hj => cases hj; exact h.at_ 2
  | 3, hj => cases hj; exact h.at_ 3
  | 4, hj => cases hj; exact h.at_ 4
  | 5, hj => cases hj; exact h.at_ 5
  | 6, hj => cases hj; exact h.at_ 6
  | k + 7, hj => simp [La.lv] at hj

set_option maxHeartbeats 3200000 in
theorem l03Text_any (w : World) (v : Value) (xs : List Lay) (hv : LSl w v xs) (hl : xs.length ≤ 16) (hf : ∀ x ∈ xs, La.okL x = true) :
    Calls Tryd.prog 36 #[v] w fun e w' => e = .returned (.string ⟨(if xs.length = 0 then [45] else La.pt xs xs.length).toArray⟩) ∧ Below w.heap.size w w' := by
  obtain ⟨a, cap, rfl⟩ := hv.form
  have HV := Lib.hid hv
  have HF := Lib.hid hf
  clear hv hf
  by_cases hz : xs.length = 0
  · have hz' : ((xs.length : Int) == 0) = true := beq_iff_eq.2 (by omega)
    rw [if_pos hz]
    clear hz
    go_enter Tryd.func36, Tryd.ntmps36
    go_wp2
    go_ret
    exact ⟨rfl, Below.refl _ _⟩
  · have hz' : ((xs.length : Int) == 0) = false := beq_eq_false_iff_ne.2 (by omega)
    rw [if_neg hz]
    have C := fun (W : World) (x : Lay) (h : La.okL x = true) => Lib.hid (l01List_any _ _ (La.lv x) (sl_seven W x 2) (by simp [La.lv]) (La.bd_lv h))
    go_enter Tryd.func36, Tryd.ntmps36
    go_wp2
    go_loopw [3, 4] (fun s i wr => ∃ (k : Nat) (S : ByteArray), k ≤ xs.length ∧ i = .int .i64 k ∧ s = .string S ∧ S.size ≤ 150 * k ∧ Hid (S.data.toList = La.pt xs k) ∧ Hid (Below w.heap.size w wr)) (fun _ i _ => xs.length - (intOf i).toNat)
    case atStart => exact ⟨0, ⟨#[]⟩, Nat.zero_le _, rfl, rfl, Nat.zero_le _, Lib.hid rfl, Lib.hid (Below.refl _ _)⟩
    case round =>
      obtain ⟨k, S, hk, rfl, rfl, hS, hp, hb⟩ := hrel
      by_cases hlt2 : k < xs.length
      · obtain ⟨b, off, cap', hn, hbl, hc⟩ := HV.out.at_ hlt2
        simp only [Value.slice.injEq] at hn
        obtain ⟨rfl, -, rfl⟩ := hn
        have hok := HF.out xs[k] (List.getElem_mem hlt2)
        have hlen := La.tl_len hok
        obtain ⟨c0, c1, c2, c3, c4, c5, c6⟩ := (hc k hlt2).below hb.out hbl
        have C1 := C (wr.alloc (.cells #[.int .i64 xs[k].fo, .int .i64 xs[k].ic, .int .i64 xs[k].wa, .int .i64 xs[k].de, .int .i64 xs[k].dg, .int .i64 xs[k].ha, .int .i64 xs[k].ag] 56)) xs[k] hok
        rw [show lt (La.lv xs[k]) = La.tl xs[k] from rfl, show (wr.alloc (.cells #[.int .i64 xs[k].fo, .int .i64 xs[k].ic, .int .i64 xs[k].wa, .int .i64 xs[k].de, .int .i64 xs[k].dg, .int .i64 xs[k].ha, .int .i64 xs[k].ag] 56)).heap.size = wr.heap.size + 1 by simp] at C1
        have hbb : Hid (∀ w1 o o', Below ((wr.alloc o).alloc o').heap.size ((wr.alloc o).alloc o') w1 → Below w.heap.size w w1) := Lib.hid (fun w1 o o' h => bt ((hb.out.alloc hb.out.size o).alloc (Nat.le_trans hb.out.size (by simp)) o') h)
        clear hc hok
        rcases Nat.eq_zero_or_pos k with hk0 | hk0
        · have hn : Hid ((S ++ ⟨(La.tl xs[k]).toArray⟩ : ByteArray).data.toList = La.pt xs (k + 1)) := Lib.hid (by
            rw [str_app, hp.out]; subst hk0; rw [La.pt_zero, La.pt_one]; rfl)
          have hk1 : ¬ (0 : Int) < k := by omega
          generalize La.tl xs[k] = t at *
          generalize xs[k] = x at *
          clear hp hk0
          go_wp2_with fail
          refine C1.out.mono ?_
          rintro e w1 ⟨rfl, hb1⟩
          have HB1 := Lib.hid (hbb.out w1 _ _ hb1)
          clear hb1
          go_wp2_with fail
          exact ⟨⟨k + 1, _, by omega, by go_num, rfl, by rw [ByteArray.size_append, sz_mk t]; omega, hn, HB1⟩, by simp only [intOf]; omega⟩
        · have hn : Hid ((S ++ ⟨#[59]⟩ ++ ⟨(La.tl xs[k]).toArray⟩ : ByteArray).data.toList = La.pt xs (k + 1)) := Lib.hid (by
            rw [str_app, La.pt_succ hlt2 hk0, ← hp.out]; simp)
          have hk1 : (0 : Int) < k := by omega
          generalize La.tl xs[k] = t at *
          generalize xs[k] = x at *
          clear hp hk0
          go_wp2_with fail
          refine C1.out.mono ?_
          rintro e w1 ⟨rfl, hb1⟩
          have HB1 := Lib.hid (hbb.out w1 _ _ hb1)
          clear hb1
          go_wp2_with fail
          exact ⟨⟨k + 1, _, by omega, by go_num, rfl, by rw [ByteArray.size_append, ByteArray.size_append, sz_mk t, show (⟨#[59]⟩ : ByteArray).size = 1 from rfl]; omega, hn, HB1⟩, by simp only [intOf]; omega⟩
      · have hkz : k = xs.length := by omega
        have hS' : Hid (S = ⟨(La.pt xs xs.length).toArray⟩) := Lib.hid (bytes_eq (by rw [hp.out, hkz]))
        clear hkz
        go_wp2
        go_ret
        exact ⟨by rw [← hS'.out]; rfl, hb.out⟩

theorem La.ptx_no {xs : List Lay} (h : La.okP xs = false) : La.ptx xs = [] := by unfold La.ptx; rw [h]; rfl
theorem La.ptx_ok {xs : List Lay} (h : La.okP xs = true) : La.ptx xs = if xs.length = 0 then [45] else La.pt xs xs.length := by unfold La.ptx; rw [if_pos h]
set_option maxHeartbeats 1600000 in
theorem specProfileText_any (w : World) (v : Value) (xs : List Lay) (hv : LSl w v xs) (hl : xs.length ≤ 1048576) :
    Calls Tryd.prog 17 #[v] w fun e w' => e = .returned (.string ⟨(La.ptx xs).toArray⟩) ∧ Below w.heap.size w w' := by
  have HV := Lib.hid hv
  clear hv
  have C := Lib.hid (l03Ok_any w v xs HV.out hl)
  cases hq : La.okP xs with
  | false =>
    have hr := Lib.hid (La.ptx_no hq)
    rw [hq] at C
    clear hq
    go_enter Tryd.func17, Tryd.ntmps17
    go_wp2_with fail
    refine C.out.mono ?_
    rintro e w1 ⟨rfl, rfl⟩
    go_wp2_with fail
    go_ret
    exact ⟨by rw [hr.out]; rfl, Below.refl _ _⟩
  | true =>
    have hr := Lib.hid (La.ptx_ok hq)
    have h2 := (La.okP_iff xs).1 hq
    have D := Lib.hid (l03Text_any w v xs HV.out h2.1 (fun x hx => (La.okL_iff x).2 (h2.2 x hx)))
    rw [hq] at C
    rw [← hr.out] at D
    clear hq h2
    go_enter Tryd.func17, Tryd.ntmps17
    go_wp2_with fail
    refine C.out.mono ?_
    rintro e w1 ⟨rfl, rfl⟩
    go_wp2_with fail
    refine D.out.mono ?_
    rintro e w1 ⟨rfl, b1⟩
    go_wp2_with fail
    go_ret
    exact ⟨rfl, b1⟩
end Go.Proofs.YtmieckchppfogaaDoor

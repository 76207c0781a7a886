/-
  How much tests agree, by the model and by the program. The condition of the program's side: impl.testRules holds what the program's text lays.
-/
import Derived.Test.YteileaeeiejonaaDoorGrp
import Derived.Test.YteileaeeiejonaaDoorTkE
namespace Go.Proofs.YteileaeeiejonaaDoor
open Go.RowKit Go.Shelf Go.Maps
set_option linter.unusedVariables false
set_option maxRecDepth 100000

namespace Tq
/-- how many tests the greatest class has -/
def agm (xs : List Tst) : Nat := max (gc cls 1 xs) (max (gc cls 2 xs) (max (gc cls 3 xs) (gc cls 4 xs)))
def cn5 (xs : List Tst) : List Int := [0, (gc cls 1 xs : Int), (gc cls 2 xs : Int), (gc cls 3 xs : Int), (gc cls 4 xs : Int)]
theorem agm_le (xs : List Tst) : agm xs ≤ xs.length := by
  have h1 := gc_le cls 1 xs; have h2 := gc_le cls 2 xs; have h3 := gc_le cls 3 xs; have h4 := gc_le cls 4 xs
  unfold agm; omega
theorem gc_pos {f : Tst → Int} {q : Int} {xs : List Tst} (h : 0 < gc f q xs) : ∃ x ∈ xs, f x = q := by
  unfold gc at h
  obtain ⟨x, hx⟩ := List.exists_mem_of_length_pos h
  rw [List.mem_filter] at hx
  exact ⟨x, hx.1, by simpa using hx.2⟩
theorem gc_agm (xs : List Tst) (q : Int) : gc cls q xs ≤ agm xs := by
  rcases Nat.eq_zero_or_pos (gc cls q xs) with h | h
  · omega
  · obtain ⟨x, -, hx⟩ := gc_pos h
    have hb := cls_bd x
    have hq : q = 1 ∨ q = 2 ∨ q = 3 ∨ q = 4 := by omega
    unfold agm
    rcases hq with rfl | rfl | rfl | rfl <;> omega
theorem agm_of {xs : List Tst} {m : Nat} (h1 : ∀ q, gc cls q xs ≤ m) (h2 : m = 0 ∨ ∃ q, gc cls q xs = m) : agm xs = m := by
  have a1 := h1 1; have a2 := h1 2; have a3 := h1 3; have a4 := h1 4
  have hle : agm xs ≤ m := by unfold agm; omega
  rcases h2 with h | ⟨q, hq⟩
  · omega
  · have := gc_agm xs q; omega
def agV (xs : List Tst) : Int := if okS xs = true ∧ 0 < xs.length then Ar.dr (1000 * (agm xs : Int)) xs.length else 0
theorem ag_bad {xs : List Tst} (h : okS xs = false) : agV xs = 0 ∧ wcC xs = 1 := by unfold agV wcC; rw [h]; simp
theorem ag_nil {xs : List Tst} (h : okS xs = true) (h0 : xs.length = 0) : agV xs = 0 ∧ wcC xs = 3 := by unfold agV wcC; rw [h]; simp [h0]
theorem ag_yes {xs : List Tst} (h : okS xs = true) (h0 : 0 < xs.length) : agV xs = Ar.dr (1000 * (agm xs : Int)) xs.length ∧ wcC xs = 0 := by unfold agV wcC; rw [h]; simp [h0]
end Tq
set_option maxHeartbeats 6400000 in
theorem specAgreeOf_any (w : World) (v : Value) (xs : List Tst) (hv : TeSl w v xs) (hl : xs.length ≤ 1048576) :
    Calls Tryd.prog 33 #[v] w fun e w' => e = .returned (.tuple #[.int .i64 (Tq.agV xs), .int .i64 (Tq.wcC xs)]) ∧ Below w.heap.size w w' := by
  have C := Lib.hid (l08Ok_any w v xs hv hl)
  obtain ⟨a, cap, rfl⟩ := hv.form
  have HV := Lib.hid hv
  clear hv
  cases hq : Tq.okS xs with
  | false =>
    obtain ⟨e1, e2⟩ := Tq.ag_bad hq
    rw [e1, e2]
    rw [hq] at C
    clear hq e1 e2
    go_enter Tryd.func33, Tryd.ntmps33
    go_wp2_with fail
    refine C.out.mono ?_
    rintro e w1 ⟨rfl, b1⟩
    have B1 := Lib.hid b1
    clear b1
    go_wp2_with fail
    go_ret2
    exact ⟨rfl, B1.out⟩
  | true =>
    have HF := Lib.hid (fun k (hk : k < xs.length) => Tq.fits_at hq hk)
    have h16 := Tq.len_ok hq
    rcases Nat.eq_zero_or_pos xs.length with h0 | h0
    · obtain ⟨e1, e2⟩ := Tq.ag_nil hq h0
      rw [e1, e2]
      rw [hq] at C
      have hz : ((xs.length : Int) == 0) = true := by rw [h0]; rfl
      clear hq e1 e2 h0
      go_enter Tryd.func33, Tryd.ntmps33
      go_wp2_with fail
      refine C.out.mono ?_
      rintro e w1 ⟨rfl, b1⟩
      have B1 := Lib.hid b1
      clear b1
      go_wp2_with fail
      go_ret2
      exact ⟨rfl, B1.out⟩
    · obtain ⟨e1, e2⟩ := Tq.ag_yes hq h0
      rw [e1, e2]
      rw [hq] at C
      have hz : ((xs.length : Int) == 0) = false := beq_eq_false_iff_ne.2 (by omega)
      have hpos := Lib.hid h0
      clear hq e1 e2 h0
      go_enter Tryd.func33, Tryd.ntmps33
      go_wp2_with fail
      refine C.out.mono ?_
      rintro e w1 ⟨rfl, b1⟩
      have B1 := Lib.hid b1
      clear b1
      go_wp2_with fail
      have O1 : Hid (Own w.heap.size (w1.alloc (.cells #[.int .i64 0, .int .i64 0, .int .i64 0, .int .i64 0, .int .i64 0] 2)) (.slice (some ⟨w1.heap.size, 0, none⟩) 5 5) (Tq.cn5 (xs.take 0))) := Lib.hid (World.ownsRow_lit w1 #[.int .i64 0, .int .i64 0, .int .i64 0, .int .i64 0, .int .i64 0] 5 B1.out.size (by decide) rfl)
      have B2 := Lib.hid (B1.out.alloc B1.out.size (.cells #[.int .i64 0, .int .i64 0, .int .i64 0, .int .i64 0, .int .i64 0] 2))
      have hgB : w.heap.size ≤ w1.heap.size := B1.out.size
      generalize w1.heap.size = g at *
      clear hz
      go_loopw [5, 6, 7] (fun s5 s6 _ wr => ∃ k : Nat, k ≤ xs.length ∧ s5 = .int .i64 (Tq.agm (xs.take k) : Int) ∧ s6 = .int .i64 k ∧ Hid (Own w.heap.size wr (.slice (some ⟨g, 0, none⟩) 5 5) (Tq.cn5 (xs.take k))) ∧ Hid (Below w.heap.size w wr)) (fun _ s6 _ _ => xs.length - (intOf s6).toNat)
      case atStart => exact ⟨0, Nat.zero_le _, rfl, rfl, O1, B2⟩
      case round =>
        obtain ⟨k, hk, rfl, rfl, hO, hb⟩ := hrel
        clear O1 B2
        by_cases hlt : k < xs.length
        · obtain ⟨b, off, cap1, hn, hbl, hcc⟩ := (HV.out.below hb.out).at_ hlt
          simp only [Value.slice.injEq] at hn
          obtain ⟨rfl, -, rfl⟩ := hn
          have F := HF.out k hlt
          have CC := Lib.hid (l08Class_any xs[k] b (off + k * 5) wr (hcc k hlt) F.q1 F.q2)
          have hbd := Tq.cls_bd xs[k]
          have t1 := gc_take Tq.cls 1 hlt
          have t2 := gc_take Tq.cls 2 hlt
          have t3 := gc_take Tq.cls 3 hlt
          have t4 := gc_take Tq.cls 4 hlt
          have hlen : (xs.take k).length ≤ 16 := by rw [List.length_take]; omega
          have l1 := gc_le Tq.cls 1 (xs.take k)
          have l2 := gc_le Tq.cls 2 (xs.take k)
          have l3 := gc_le Tq.cls 3 (xs.take k)
          have l4 := gc_le Tq.cls 4 (xs.take k)
          have ham := Tq.agm_le (xs.take k)
          have hm : (Tq.agm (xs.take k) : Int) = (Tq.agm (xs.take k) : Int) := rfl
          unfold Tq.cn5 at hO
          obtain ⟨a1, e1⟩ : ∃ z : Int, (gc Tq.cls 1 (xs.take k) : Int) = z := ⟨_, rfl⟩
          obtain ⟨a2, e2⟩ : ∃ z : Int, (gc Tq.cls 2 (xs.take k) : Int) = z := ⟨_, rfl⟩
          obtain ⟨a3, e3⟩ : ∃ z : Int, (gc Tq.cls 3 (xs.take k) : Int) = z := ⟨_, rfl⟩
          obtain ⟨a4, e4⟩ : ∃ z : Int, (gc Tq.cls 4 (xs.take k) : Int) = z := ⟨_, rfl⟩
          rw [e1, e2, e3, e4] at hO
          have n1 : 0 ≤ a1 ∧ a1 ≤ 16 := by omega
          have n2 : 0 ≤ a2 ∧ a2 ≤ 16 := by omega
          have n3 : 0 ≤ a3 ∧ a3 ≤ 16 := by omega
          have n4 : 0 ≤ a4 ∧ a4 ≤ 16 := by omega
          have hmv : (Tq.agm (xs.take k) : Int) = max a1 (max a2 (max a3 a4)) := by unfold Tq.agm; omega
          obtain ⟨m, hm2⟩ : ∃ z : Int, (Tq.agm (xs.take k) : Int) = z := ⟨_, rfl⟩
          rw [hm2] at hmv ⊢
          clear hcc F l1 l2 l3 l4 ham hm hlen
          have hcs : Tq.cls xs[k] = 1 ∨ Tq.cls xs[k] = 2 ∨ Tq.cls xs[k] = 3 ∨ Tq.cls xs[k] = 4 := by omega
          clear hbd hm2
          rcases hcs with hc | hc | hc | hc
          · have u1 : ((gc Tq.cls 1 (xs.take (k + 1)) : Nat) : Int) = a1 + 1 := by have s : gc Tq.cls 1 (xs.take (k + 1)) = gc Tq.cls 1 (xs.take k) + 1 := (by rw [t1, hc]; rfl); omega
            have u2 : ((gc Tq.cls 2 (xs.take (k + 1)) : Nat) : Int) = a2 := by have s : gc Tq.cls 2 (xs.take (k + 1)) = gc Tq.cls 2 (xs.take k) + 0 := (by rw [t2, hc]; rfl); omega
            have u3 : ((gc Tq.cls 3 (xs.take (k + 1)) : Nat) : Int) = a3 := by have s : gc Tq.cls 3 (xs.take (k + 1)) = gc Tq.cls 3 (xs.take k) + 0 := (by rw [t3, hc]; rfl); omega
            have u4 : ((gc Tq.cls 4 (xs.take (k + 1)) : Nat) : Int) = a4 := by have s : gc Tq.cls 4 (xs.take (k + 1)) = gc Tq.cls 4 (xs.take k) + 0 := (by rw [t4, hc]; rfl); omega
            have hx : Hid (Tq.cn5 (xs.take (k + 1)) = [0, a1 + 1, a2, a3, a4]) := Lib.hid (by unfold Tq.cn5; rw [u1, u2, u3, u4])
            have hmx : max m (a1 + 1) = (Tq.agm (xs.take (k + 1)) : Int) := by unfold Tq.agm; omega
            have HMX := Lib.hid (fun W => mx_any _ _ _ W hmx)
            rw [hc] at CC
            have c2 : wr.cell? ⟨g, 1, none⟩ = some (.int .i64 a1) := by have := (hO.out.cellAt 1 (by omega)); rw [this]; simp [iv]
            have f2 := hO.out.frozenAt 1
            clear hc t1 t2 t3 t4 e1 e2 e3 e4 u1 u2 u3 u4 hmv hmx
            generalize hA : (Tq.agm (xs.take (k + 1)) : Int) = m2 at *
            replace hA := Lib.hid hA
            go_wp2_with fail
            refine CC.out.mono ?_
            rintro e w2 ⟨rfl, b2⟩
            have B2 := Lib.hid (bt hb.out b2)
            have O2 := Lib.hid (own_belowAll hO.out b2)
            have c3 : w2.cell? ⟨g, 1, none⟩ = some (.int .i64 a1) := by have := (O2.out.cellAt 1 (by omega)); rw [this]; simp [iv]
            have f3 := O2.out.frozenAt 1
            have hgl : g < w2.heap.size := World.block_lt_of_cell? w2 _ c3
            have HS := Lib.hid (O2.out.stored 1 (.int .i64 (a1 + 1))).1
            have BS := Lib.hid (B2.out.setCell (p := ⟨g, 1, none⟩) hgB (.int .i64 (a1 + 1)))
            clear b2 c2 f2 hO hb
            go_wp2_with fail
            refine (HMX.out _).mono ?_
            rintro e w3 ⟨rfl, rfl⟩
            go_wp2_with fail
            exact ⟨⟨k + 1, by omega, by rw [hA.out], by go_num, Lib.hid (by rw [hx.out]; exact HS.out), BS⟩, by simp only [intOf]; omega⟩
          · have u1 : ((gc Tq.cls 1 (xs.take (k + 1)) : Nat) : Int) = a1 := by have s : gc Tq.cls 1 (xs.take (k + 1)) = gc Tq.cls 1 (xs.take k) + 0 := (by rw [t1, hc]; rfl); omega
            have u2 : ((gc Tq.cls 2 (xs.take (k + 1)) : Nat) : Int) = a2 + 1 := by have s : gc Tq.cls 2 (xs.take (k + 1)) = gc Tq.cls 2 (xs.take k) + 1 := (by rw [t2, hc]; rfl); omega
            have u3 : ((gc Tq.cls 3 (xs.take (k + 1)) : Nat) : Int) = a3 := by have s : gc Tq.cls 3 (xs.take (k + 1)) = gc Tq.cls 3 (xs.take k) + 0 := (by rw [t3, hc]; rfl); omega
            have u4 : ((gc Tq.cls 4 (xs.take (k + 1)) : Nat) : Int) = a4 := by have s : gc Tq.cls 4 (xs.take (k + 1)) = gc Tq.cls 4 (xs.take k) + 0 := (by rw [t4, hc]; rfl); omega
            have hx : Hid (Tq.cn5 (xs.take (k + 1)) = [0, a1, a2 + 1, a3, a4]) := Lib.hid (by unfold Tq.cn5; rw [u1, u2, u3, u4])
            have hmx : max m (a2 + 1) = (Tq.agm (xs.take (k + 1)) : Int) := by unfold Tq.agm; omega
            have HMX := Lib.hid (fun W => mx_any _ _ _ W hmx)
            rw [hc] at CC
            have c2 : wr.cell? ⟨g, 2, none⟩ = some (.int .i64 a2) := by have := (hO.out.cellAt 2 (by omega)); rw [this]; simp [iv]
            have f2 := hO.out.frozenAt 2
            clear hc t1 t2 t3 t4 e1 e2 e3 e4 u1 u2 u3 u4 hmv hmx
            generalize hA : (Tq.agm (xs.take (k + 1)) : Int) = m2 at *
            replace hA := Lib.hid hA
            go_wp2_with fail
            refine CC.out.mono ?_
            rintro e w2 ⟨rfl, b2⟩
            have B2 := Lib.hid (bt hb.out b2)
            have O2 := Lib.hid (own_belowAll hO.out b2)
            have c3 : w2.cell? ⟨g, 2, none⟩ = some (.int .i64 a2) := by have := (O2.out.cellAt 2 (by omega)); rw [this]; simp [iv]
            have f3 := O2.out.frozenAt 2
            have hgl : g < w2.heap.size := World.block_lt_of_cell? w2 _ c3
            have HS := Lib.hid (O2.out.stored 2 (.int .i64 (a2 + 1))).1
            have BS := Lib.hid (B2.out.setCell (p := ⟨g, 2, none⟩) hgB (.int .i64 (a2 + 1)))
            clear b2 c2 f2 hO hb
            go_wp2_with fail
            refine (HMX.out _).mono ?_
            rintro e w3 ⟨rfl, rfl⟩
            go_wp2_with fail
            exact ⟨⟨k + 1, by omega, by rw [hA.out], by go_num, Lib.hid (by rw [hx.out]; exact HS.out), BS⟩, by simp only [intOf]; omega⟩
          · have u1 : ((gc Tq.cls 1 (xs.take (k + 1)) : Nat) : Int) = a1 := by have s : gc Tq.cls 1 (xs.take (k + 1)) = gc Tq.cls 1 (xs.take k) + 0 := (by rw [t1, hc]; rfl); omega
            have u2 : ((gc Tq.cls 2 (xs.take (k + 1)) : Nat) : Int) = a2 := by have s : gc Tq.cls 2 (xs.take (k + 1)) = gc Tq.cls 2 (xs.take k) + 0 := (by rw [t2, hc]; rfl); omega
            have u3 : ((gc Tq.cls 3 (xs.take (k + 1)) : Nat) : Int) = a3 + 1 := by have s : gc Tq.cls 3 (xs.take (k + 1)) = gc Tq.cls 3 (xs.take k) + 1 := (by rw [t3, hc]; rfl); omega
            have u4 : ((gc Tq.cls 4 (xs.take (k + 1)) : Nat) : Int) = a4 := by have s : gc Tq.cls 4 (xs.take (k + 1)) = gc Tq.cls 4 (xs.take k) + 0 := (by rw [t4, hc]; rfl); omega
            have hx : Hid (Tq.cn5 (xs.take (k + 1)) = [0, a1, a2, a3 + 1, a4]) := Lib.hid (by unfold Tq.cn5; rw [u1, u2, u3, u4])
            have hmx : max m (a3 + 1) = (Tq.agm (xs.take (k + 1)) : Int) := by unfold Tq.agm; omega
            have HMX := Lib.hid (fun W => mx_any _ _ _ W hmx)
            rw [hc] at CC
            have c2 : wr.cell? ⟨g, 3, none⟩ = some (.int .i64 a3) := by have := (hO.out.cellAt 3 (by omega)); rw [this]; simp [iv]
            have f2 := hO.out.frozenAt 3
            clear hc t1 t2 t3 t4 e1 e2 e3 e4 u1 u2 u3 u4 hmv hmx
            generalize hA : (Tq.agm (xs.take (k + 1)) : Int) = m2 at *
            replace hA := Lib.hid hA
            go_wp2_with fail
            refine CC.out.mono ?_
            rintro e w2 ⟨rfl, b2⟩
            have B2 := Lib.hid (bt hb.out b2)
            have O2 := Lib.hid (own_belowAll hO.out b2)
            have c3 : w2.cell? ⟨g, 3, none⟩ = some (.int .i64 a3) := by have := (O2.out.cellAt 3 (by omega)); rw [this]; simp [iv]
            have f3 := O2.out.frozenAt 3
            have hgl : g < w2.heap.size := World.block_lt_of_cell? w2 _ c3
            have HS := Lib.hid (O2.out.stored 3 (.int .i64 (a3 + 1))).1
            have BS := Lib.hid (B2.out.setCell (p := ⟨g, 3, none⟩) hgB (.int .i64 (a3 + 1)))
            clear b2 c2 f2 hO hb
            go_wp2_with fail
            refine (HMX.out _).mono ?_
            rintro e w3 ⟨rfl, rfl⟩
            go_wp2_with fail
            exact ⟨⟨k + 1, by omega, by rw [hA.out], by go_num, Lib.hid (by rw [hx.out]; exact HS.out), BS⟩, by simp only [intOf]; omega⟩
          · have u1 : ((gc Tq.cls 1 (xs.take (k + 1)) : Nat) : Int) = a1 := by have s : gc Tq.cls 1 (xs.take (k + 1)) = gc Tq.cls 1 (xs.take k) + 0 := (by rw [t1, hc]; rfl); omega
            have u2 : ((gc Tq.cls 2 (xs.take (k + 1)) : Nat) : Int) = a2 := by have s : gc Tq.cls 2 (xs.take (k + 1)) = gc Tq.cls 2 (xs.take k) + 0 := (by rw [t2, hc]; rfl); omega
            have u3 : ((gc Tq.cls 3 (xs.take (k + 1)) : Nat) : Int) = a3 := by have s : gc Tq.cls 3 (xs.take (k + 1)) = gc Tq.cls 3 (xs.take k) + 0 := (by rw [t3, hc]; rfl); omega
            have u4 : ((gc Tq.cls 4 (xs.take (k + 1)) : Nat) : Int) = a4 + 1 := by have s : gc Tq.cls 4 (xs.take (k + 1)) = gc Tq.cls 4 (xs.take k) + 1 := (by rw [t4, hc]; rfl); omega
            have hx : Hid (Tq.cn5 (xs.take (k + 1)) = [0, a1, a2, a3, a4 + 1]) := Lib.hid (by unfold Tq.cn5; rw [u1, u2, u3, u4])
            have hmx : max m (a4 + 1) = (Tq.agm (xs.take (k + 1)) : Int) := by unfold Tq.agm; omega
            have HMX := Lib.hid (fun W => mx_any _ _ _ W hmx)
            rw [hc] at CC
            have c2 : wr.cell? ⟨g, 4, none⟩ = some (.int .i64 a4) := by have := (hO.out.cellAt 4 (by omega)); rw [this]; simp [iv]
            have f2 := hO.out.frozenAt 4
            clear hc t1 t2 t3 t4 e1 e2 e3 e4 u1 u2 u3 u4 hmv hmx
            generalize hA : (Tq.agm (xs.take (k + 1)) : Int) = m2 at *
            replace hA := Lib.hid hA
            go_wp2_with fail
            refine CC.out.mono ?_
            rintro e w2 ⟨rfl, b2⟩
            have B2 := Lib.hid (bt hb.out b2)
            have O2 := Lib.hid (own_belowAll hO.out b2)
            have c3 : w2.cell? ⟨g, 4, none⟩ = some (.int .i64 a4) := by have := (O2.out.cellAt 4 (by omega)); rw [this]; simp [iv]
            have f3 := O2.out.frozenAt 4
            have hgl : g < w2.heap.size := World.block_lt_of_cell? w2 _ c3
            have HS := Lib.hid (O2.out.stored 4 (.int .i64 (a4 + 1))).1
            have BS := Lib.hid (B2.out.setCell (p := ⟨g, 4, none⟩) hgB (.int .i64 (a4 + 1)))
            clear b2 c2 f2 hO hb
            go_wp2_with fail
            refine (HMX.out _).mono ?_
            rintro e w3 ⟨rfl, rfl⟩
            go_wp2_with fail
            exact ⟨⟨k + 1, by omega, by rw [hA.out], by go_num, Lib.hid (by rw [hx.out]; exact HS.out), BS⟩, by simp only [intOf]; omega⟩
        · have hkn : k = xs.length := by omega
          have hkz : ¬ (k : Int) < (xs.length : Int) := by omega
          have hh : xs.take k = xs := by rw [hkn, List.take_length]
          rw [hh]
          have ham := Tq.agm_le xs
          have hp := hpos.out
          clear hkn hh hO
          generalize hT : (Tq.agm xs : Int) = t at *
          have ht : 0 ≤ t ∧ t ≤ 16 := by omega
          replace hT := Lib.hid hT
          have hwm : wrap64 (1000 * t) = 1000 * t := IntWalk.wrap64_in _ ⟨by omega, by omega⟩
          clear ham
          go_wp2_with (go_at_call 62; refine (l01Div_any _ _ _ (by omega) (by omega) (by omega) (by omega) (by omega)).mono ?_; rintro e w' ⟨rfl, rfl⟩)
          go_ret2
          exact ⟨ret_ii (by rw [hT.out]) rfl, hb.out⟩
def mkE : Option En → Value
  | some e => enV e
  | none => .slice none 0 0
set_option maxHeartbeats 6400000 in
theorem implAgreeOf_any (w : World) (v : Value) (xs : List Tst) (hv : TeSl w v xs) (hl : xs.length ≤ 1048576) (hR : RulesT w) :
    Calls Tryd.prog 34 #[v] w fun e w' => e = .returned (.tuple #[.int .i64 (Tq.agV xs), .int .i64 (Tq.wcC xs)]) ∧ Below w.heap.size w w' := by
  have C := Lib.hid (implValidTests_any w v xs hv hl hR)
  obtain ⟨a, cap, rfl⟩ := hv.form
  have HV := Lib.hid hv
  have HR := Lib.hid hR
  clear hv hR
  cases hq : Tq.okS xs with
  | false =>
    obtain ⟨e1, e2⟩ := Tq.ag_bad hq
    rw [e1, e2]
    rw [hq] at C
    clear hq e1 e2
    go_enter Tryd.func34, Tryd.ntmps34
    go_wp2_with fail
    refine C.out.mono ?_
    rintro e w1 ⟨rfl, b1⟩
    have B1 := Lib.hid b1
    clear b1
    go_wp2_with fail
    go_ret2
    exact ⟨rfl, B1.out⟩
  | true =>
    have HF := Lib.hid (fun k (hk : k < xs.length) => Tq.fits_at hq hk)
    have h16 := Tq.len_ok hq
    rcases Nat.eq_zero_or_pos xs.length with h0 | h0
    · obtain ⟨e1, e2⟩ := Tq.ag_nil hq h0
      rw [e1, e2]
      rw [hq] at C
      have hz : ((xs.length : Int) == 0) = true := by rw [h0]; rfl
      clear hq e1 e2 h0
      go_enter Tryd.func34, Tryd.ntmps34
      go_wp2_with fail
      refine C.out.mono ?_
      rintro e w1 ⟨rfl, b1⟩
      have B1 := Lib.hid b1
      clear b1
      go_wp2_with fail
      go_ret2
      exact ⟨rfl, B1.out⟩
    · obtain ⟨e1, e2⟩ := Tq.ag_yes hq h0
      rw [e1, e2]
      rw [hq] at C
      have hz : ((xs.length : Int) == 0) = false := beq_eq_false_iff_ne.2 (by omega)
      have hpos := Lib.hid h0
      have CG := Lib.hid (fun W (hb : Below w.heap.size w W) => groupsTst_any 55 Tq.cls W _ xs (enters_of Tryd.func55 (by kernel_rfl) rfl) (by omega) (HV.out.below hb) (fun k hk => by have := Tq.cls_bd xs[k]; omega) (fun k hk W2 h2 => class_any xs[k] W2 (HF.out k hk) (HR.out.below (bt hb h2))))
      clear hq e1 e2 h0
      go_enter Tryd.func34, Tryd.ntmps34
      go_wp2_with fail
      refine C.out.mono ?_
      rintro e w1 ⟨rfl, b1⟩
      have B1 := Lib.hid b1
      clear b1
      go_wp2_with fail
      refine (CG.out _ B1.out).mono ?_
      rintro e w2 ⟨D, M, rfl, hG, hN, b2⟩
      have B2 := Lib.hid (bt B1.out b2)
      have G := Lib.hid hG
      have N := Lib.hid hN
      have hgB : w.heap.size ≤ w1.heap.size := B1.out.size
      have hown := hG.own
      clear b2 hG hN hz CG
      generalize w1.heap.size = b at *
      go_wp2_with (at_range; refine wpList_range_own _ rfl _ 78 rfl 2 27 (int_keyed Tryd.underlying2) Tryd.underlying78 RG b xs.length D rfl hown ?_; intro w3 hrg0 hg0 hs0)
      go_frame
      have R0 := Lib.hid hrg0
      have B3 := Lib.hid (B2.out.grown hg0 B2.out.size (fun j hj => by cases hj))
      have hr3 := Lib.hid (show w.heap.size ≤ w2.heap.size from B2.out.size)
      generalize w2.heap.size = r at *
      clear hown hrg0 hg0 hs0
      go_loopw [4, 6] (fun s4 _ wr => ∃ (left : Lit → Bool) (cnt m : Nat), s4 = .int .i64 (m : Int) ∧ Hid (wr.ranges Tryd.prog 2 RG b r xs.length D left cnt) ∧ Hid (∀ q e, M q = some e → left (kI q) = false → e.2.1 ≤ m) ∧ Hid (m = 0 ∨ ∃ q e, M q = some e ∧ e.2.1 = m) ∧ Hid (Below w.heap.size w wr)) (fun _ _ wr => wr.rangeLeft b r)
      case atStart => exact ⟨_, _, 0, rfl, R0, Lib.hid (fun q e he hl0 => by have := G.out.has q e he; rw [hl0] at this; cases this), Lib.hid (Or.inl rfl), B3⟩
      case round =>
        obtain ⟨left, cnt, m, rfl, hrg, hle, hex, hb⟩ := hrel
        clear R0 B3
        go_wp2_with (at_next; refine wpList_next_ranges _ rfl _ rfl 2 (int_keyed Tryd.underlying2) RG (Value.int .i64) mkE (fun key kl hkey => by obtain ⟨x, rfl, _⟩ := Maps.keyOf_int_inv Tryd.underlying2 hkey; exact ⟨x, rfl⟩) (fun v y hv => by rcases RG_inv hv with ⟨e, rfl, -⟩ | ⟨rfl, -⟩; exact ⟨some e, rfl⟩; exact ⟨none, rfl⟩) b r xs.length D left cnt rfl hrg.out ?_ ?_)
        · intro hc0 hl0
          have hag : Hid (Tq.agm xs = m) := Lib.hid (Tq.agm_of (fun q => by
            cases hMq : M q with
            | none => have := (N.out q).1 hMq; omega
            | some e => have h1 := (N.out q).2 e hMq; have h2 := hle.out q e hMq (hl0 _); omega) (by
            rcases hex.out with h | ⟨q, e, h1, h2⟩
            · exact Or.inl h
            · exact Or.inr ⟨q, by have := (N.out q).2 e h1; omega⟩))
          have ham := Tq.agm_le xs
          rw [hag.out] at ham
          have hp := hpos.out
          have hwm : wrap64 (1000 * (m : Int)) = 1000 * (m : Int) := IntWalk.wrap64_in _ ⟨by omega, by omega⟩
          have hdr := Lib.hid (Tq.dR_eq (a := 1000 * (m : Int)) (b := xs.length) ⟨by omega, by omega⟩ ⟨by omega, by omega⟩)
          clear hl0 hc0
          go_wp2_with fail
          refine (implDivRound_any _ _ _).mono ?_
          rintro e w' ⟨rfl, rfl⟩
          go_wp2_with fail
          go_ret2
          exact ⟨ret_ii (by rw [hag.out, hdr.out]) rfl, hb.out⟩
        · intro x c kl y1 y2 w4 cnt1 hkey hlx hR hat hrg1 hlt hg1 hs1 hen
          obtain ⟨x', ex, rfl, hwx⟩ := Maps.keyOf_int_inv Tryd.underlying2 hkey
          cases ex
          have hMx : ∃ e, M x = some e ∧ c = some e := by
            cases hMq : M x with
            | none =>
              have a1 := G.out.miss x hMq .nil
              have a2 := G.out.miss x hMq (.map [])
              have a3 := hat .nil
              have a4 := hat (.map [])
              unfold kI at a1 a2
              rw [a1] at a3; rw [a2] at a4
              rw [← a3] at a4
              cases a4
            | some e =>
              have a1 := G.out.hit x e hMq .nil
              unfold kI at a1
              rw [hat .nil] at a1
              refine ⟨e, rfl, ?_⟩
              rcases RG_inv hR with ⟨e2, h1, h2⟩ | ⟨h1, h2⟩ <;> replace h2 : y1 = _ := h2
              · rw [h2] at a1
                have := rlE_inj a1; subst this
                cases c with
                | none => unfold mkE at h1; cases h1
                | some e3 =>
                  have h4 : RG (enV e3) = RG (enV e2) := congrArg RG h1
                  rw [RG_en, RG_en] at h4
                  simp only [Option.some.injEq, Prod.mk.injEq, and_true] at h4
                  rw [rlE_inj h4]
              · rw [h2] at a1; cases a1
          obtain ⟨e, hMe, rfl⟩ := hMx
          have hle1 : Hid (∀ q e', M q = some e' → (left (kI q) && !(kI q).sameKey (.int .i64 x)) = false → e'.2.1 ≤ max m e.2.1) := Lib.hid (fun q e' h1 h2 => by
            rw [Bool.and_eq_false_iff] at h2
            rcases h2 with h2 | h2
            · have := hle.out q e' h1 h2; omega
            · have hqx : q = x := by have h3 := WideAt.sameKey_eq (by simpa using h2); unfold kI at h3; injection h3
              subst hqx
              rw [hMe] at h1
              cases h1
              omega)
          have hex1 : Hid (max m e.2.1 = 0 ∨ ∃ q e', M q = some e' ∧ e'.2.1 = max m e.2.1) := Lib.hid (by
            rcases Nat.le_total m e.2.1 with h | h
            · exact Or.inr ⟨x, e, hMe, by omega⟩
            · rw [Nat.max_eq_left h]; exact hex.out)
          have HR1 := Lib.hid hrg1
          have HB1 := Lib.hid (hb.out.grown hg1 hb.out.size (fun j hj => by cases hj; exact hr3.out))
          have hms := Lib.hid (show w4.rangeLeft b r < wr.rangeLeft b r by rw [hrg1.left_eq, hrg.out.left_eq]; exact hlt)
          have hnle : e.2.1 ≤ 1000 := by have h1 := (N.out x).2 e hMe; have h2 := gc_le Tq.cls x xs; omega
          unfold mkE enV at hen ⊢
          obtain ⟨eg, en, ec⟩ := e
          simp only at hle1 hex1 hen hnle ⊢
          clear hkey hlx hR hat hrg1 hlt hg1 hs1 hMe
          go_wp2_with fail
          exact ⟨⟨_, cnt1, max m en, by go_num, HR1, hle1, hex1, HB1⟩, hms.out⟩
end Go.Proofs.YteileaeeiejonaaDoor

/-
  The text of a path, by the model and by the program (chapter 14). Pow: the library's table of powers of ten holds what its text lays.
-/
import Derived.Test.YtmieckchppfogaaGreatDoorAgG
import Derived.Test.YtmieckchppfogaaGreatDoorList
import Derived.Deep.RegionHeld3
namespace Go.Proofs.YtmieckchppfogaaGreatDoor
open Go.RowKit Go.Shelf
set_option linter.unusedVariables false
set_option maxRecDepth 100000

namespace An
/-- a point's text -/
def tx (x : Pth) : List UInt8 := Lib.itoa x.di ++ [58] ++ Lib.itoa x.he
/-- the text of the first k points -/
def pt (xs : List Pth) (k : Nat) : List UInt8 := Lib.join ((xs.take k).map tx) [32]
def ptx (xs : List Pth) : List UInt8 := if okB xs = true then pt xs xs.length else []
theorem pt_zero (xs : List Pth) : pt xs 0 = [] := rfl
theorem pt_one {xs : List Pth} (h : 0 < xs.length) : pt xs 1 = tx xs[0] := by
  unfold pt; rw [List.take_succ_eq_append_getElem h]; simp [Lib.join_one]
theorem pt_succ {xs : List Pth} {k : Nat} (h : k < xs.length) (hk : 0 < k) : pt xs (k + 1) = pt xs k ++ [32] ++ tx xs[k] := by
  unfold pt
  rw [List.take_succ_eq_append_getElem h, List.map_append]
  exact join_snoc [32] _ _ (by intro e; rw [List.map_eq_nil_iff, List.take_eq_nil_iff] at e; rcases e with e | e; omega; simp [e] at h)
def itp (xs : List Pth) (k : Nat) : List ByteArray := (xs.take k).map fun x => ⟨(tx x).toArray⟩
theorem itp_snoc {xs : List Pth} {k : Nat} (h : k < xs.length) : itp xs (k + 1) = itp xs k ++ [⟨(tx xs[k]).toArray⟩] := by
  unfold itp; rw [List.take_succ_eq_append_getElem h, List.map_append]; rfl
theorem itp_length {xs : List Pth} {k : Nat} (h : k ≤ xs.length) : (itp xs k).length = k := by unfold itp; simp; omega
theorem pt_itp (xs : List Pth) (k : Nat) : Lib.join ((itp xs k).map (·.data.toList)) [32] = pt xs k := by
  unfold pt itp
  rw [List.map_map]
  congr 1
theorem tx_len {x : Pth} (h1 : -9223372036854775808 ≤ x.di) (h2 : x.di ≤ 9223372036854775807) (h3 : -9223372036854775808 ≤ x.he) (h4 : x.he ≤ 9223372036854775807) : (tx x).length ≤ 41 := by
  have a := itoa_len h1 h2
  have b := itoa_len h3 h4
  unfold tx; simp only [List.length_append, List.length_cons, List.length_nil]; omega
theorem Ok.bd {xs : List Pth} (o : Ok xs) {k : Nat} (h : k < xs.length) : -9223372036854775808 ≤ xs[k].di ∧ xs[k].di ≤ 9223372036854775807 ∧ -9223372036854775808 ≤ xs[k].he ∧ xs[k].he ≤ 9223372036854775807 := by
  have a := o.dl k h
  have b := o.dh k h
  have c := o.hl k h
  have d := o.h9 k h
  rw [nd_at h] at a b c d
  omega
theorem pt_len {xs : List Pth} (o : Ok xs) : ∀ k, k ≤ xs.length → (pt xs k).length ≤ 42 * k := by
  intro k
  induction k with
  | zero => intro _; rw [pt_zero]; simp
  | succ k ih =>
    intro hk
    obtain ⟨b1, b2, b3, b4⟩ := o.bd (k := k) (by omega)
    have := tx_len b1 b2 b3 b4
    have := ih (by omega)
    rcases Nat.eq_zero_or_pos k with h | h
    · subst h; rw [pt_one hk]; omega
    · rw [pt_succ hk h]; simp only [List.length_append, List.length_cons, List.length_nil]; omega
end An
theorem An.ptx_no {xs : List Pth} (h : An.okB xs = false) : An.ptx xs = [] := by unfold An.ptx; rw [h]; rfl
theorem An.ptx_ok {xs : List Pth} (h : An.okB xs = true) : An.ptx xs = An.pt xs xs.length := by unfold An.ptx; rw [if_pos h]
set_option maxHeartbeats 3200000 in
theorem textP_any (x : Pth) (w : World) (hp : Pow w) (b1 : -9223372036854775808 ≤ x.di) (b2 : x.di ≤ 9223372036854775807) (b3 : -9223372036854775808 ≤ x.he) (b4 : x.he ≤ 9223372036854775807) :
    Calls Tryz.prog 33 #[.agg #[.int .i64 x.di, .int .i64 x.he]] w fun e w' => e = .returned (.string ⟨(An.tx x).toArray⟩) ∧ Below w.heap.size w w' := by
  obtain ⟨W1, hW1⟩ : ∃ W, W = w.alloc (.cells #[.int .i64 x.di, .int .i64 x.he] 36) := ⟨_, rfl⟩
  have K1 : Whole W1 w.heap.size 36 #[.int .i64 x.di, .int .i64 x.he] := by rw [hW1]; exact Whole.new _ _ _
  have HB : Hid (Below w.heap.size w W1) := Lib.hid (by rw [hW1]; exact (Below.refl _ _).alloc (Nat.le_refl _) _)
  have K0 := Lib.hid (fun W (hb : Below W1.heap.size W1 W) => (⟨(K1.all hb).at_ 0, (K1.all hb).at_ 1⟩ : W.cell? ⟨w.heap.size, 0, none⟩ = some (.int .i64 x.di) ∧ W.cell? ⟨w.heap.size, 1, none⟩ = some (.int .i64 x.he)))
  have l1 := itoa_len b1 b2
  have l2 := itoa_len b3 b4
  have C1 := Lib.hid (fun W (hb : Below W1.heap.size W1 W) => implDecimal_any x.di W b1 b2 (hp.below (bt HB.out hb)))
  have C2 := Lib.hid (fun W (hb : Below W1.heap.size W1 W) => implDecimal_any x.he W b3 b4 (hp.below (bt HB.out hb)))
  have ET : Hid (An.tx x = Lib.itoa x.di ++ [58] ++ Lib.itoa x.he) := Lib.hid rfl
  obtain ⟨t1, ht1⟩ : ∃ t : ByteArray, t = ⟨(Lib.itoa x.di).toArray⟩ := ⟨_, rfl⟩
  obtain ⟨t2, ht2⟩ : ∃ t : ByteArray, t = ⟨(Lib.itoa x.he).toArray⟩ := ⟨_, rfl⟩
  have s1 : t1.size ≤ 20 := by rw [ht1, sz_mk]; exact l1
  have s2 : t2.size ≤ 20 := by rw [ht2, sz_mk]; exact l2
  have EX : Hid (t1 ++ ⟨#[58]⟩ ++ t2 = ⟨(An.tx x).toArray⟩) := Lib.hid (bytes_eq (by rw [ET.out, ht1, ht2]; simp))
  rw [← ht1] at C1
  rw [← ht2] at C2
  have n1 : ¬ 9223372036854775807 < t1.size + 1 := by omega
  have n2' : ¬ 9223372036854775807 < t1.size + 1 + t2.size := by omega
  obtain ⟨c0, c1⟩ := K0.out W1 (Below.refl _ _)
  rw [← EX.out]
  clear ht1 ht2 ET b1 b2 b3 b4 l1 l2 s1 s2 EX K1 hp
  generalize x.di = d at *
  generalize x.he = y at *
  subst hW1
  go_enter Tryz.func33, Tryz.ntmps33
  go_wp2_with fail
  generalize w.alloc (.cells #[.int .i64 d, .int .i64 y] 36) = W1 at *
  first | (go_region_held3 (fun w' => w'.cell? ⟨w.heap.size, 0, none⟩ = some (.int .i64 d) ∧ w'.cell? ⟨w.heap.size, 1, none⟩ = some (.int .i64 y)) (go_keep)
    (first
      | (go_at_call 61; have bA1 := bA0; refine (C2.out _ bA1).mono ?_; rintro e wB ⟨rfl, bB⟩; have bB0 := bt bA0 bB; obtain ⟨v0, v1⟩ := K0.out wB bB0)
      | (go_at_call 61; refine (C1.out _ (below_drewW _ 1)).mono ?_; rintro e wA ⟨rfl, bA⟩; have bA0 := bt (below_drewW _ 1) bA; obtain ⟨z0, z1⟩ := K0.out wA bA0))) | fail "region"
  all_goals (
    have B3 := Lib.hid (bt HB.out bB0)
    clear bA0 bB0 bA bB
    go_wp2_with fail
    go_ret
    exact ⟨rfl, B3.out⟩)
theorem join32_any (B : Nat) (w : World) (g cap n : Nat) (xs : List ByteArray) (h : w.ownsRow B 9 1 (.slice (some ⟨g, 0, none⟩) n cap) n (tv xs)) (hx : xs.length = n) (hn : n ≤ 1048576) (hc : n ≤ cap)
    (hlen : (Lib.join (xs.map (·.data.toList)) [32]).length ≤ 140737488355328) :
    Calls Tryz.prog 60 #[.slice (some ⟨g, 0, none⟩) n cap, .string ⟨#[32]⟩] w fun e w' => e = .returned (.string ⟨(Lib.join (xs.map (·.data.toList)) [32]).toArray⟩) ∧ Below w.heap.size w w' := by
  subst hx
  refine Tryz.strings_Join g 0 cap xs ⟨#[32]⟩ w (fun j x hj => ?_) (h.lt g rfl).2 (by omega) hc hlen
  have hl : j < xs.length := (List.getElem?_eq_some_iff.1 hj).1
  rw [Nat.zero_add, h.cellAt j (by omega)]
  unfold tv; rw [List.getElem?_map, hj]; rfl
set_option maxHeartbeats 3200000 in
theorem joinedP_any (w : World) (v : Value) (xs : List Pth) (hv : PpSl w v xs) (o : An.Ok xs) (hp : Pow w) :
    Calls Tryz.prog 32 #[v, .string ⟨#[32]⟩, .func (.func 33) #[] #[]] w fun e w' => e = .returned (.string ⟨(An.pt xs xs.length).toArray⟩) ∧ Below w.heap.size w w' := by
  obtain ⟨i0, hi, hz0, hz1, hz2⟩ := info_parts info_str
  have eg := enters_of Tryz.func33 (by kernel_rfl) rfl
  have n2 := o.n2
  have n24 := o.n24
  have HO := Lib.hid o
  obtain ⟨b, off, cap, rfl, P⟩ := hv.pts (by omega)
  have HPT := Lib.hid (fun W (hb : Below w.heap.size w W) => PtAt.below P hb)
  have HP := Lib.hid hp
  clear hv o P hp
  go_enter Tryz.func32, Tryz.ntmps32
  go_wp2_with (at_make; refine wpList_make_own _ rfl _ _ 80 rfl w.heap.size 9 i0 (.string ⟨#[]⟩) 1 Tryz.underlying80 hi hz0 hz1 .i64 .i64 _ xs.length rfl rfl rfl ?c1 ?c2 ?c3 ?_)
  case c1 => first | omega | (rw [hz2]; omega)
  case c2 => first | (unfold maxLen; omega) | omega
  case c3 => first | omega | exact Nat.le_refl _
  intro w1 hown hg
  have HO1 := Lib.hid hown
  have HB : Hid (Below w.heap.size w w1) := Lib.hid ((Below.refl w.heap.size w).grown hg (Nat.le_refl _) (fun k hk => by cases hk))
  clear hown hg
  go_wp2
  go_loopw [7, 15] (fun pv i wr => ∃ k : Nat, k ≤ xs.length ∧ i = .int .i64 k ∧ Hid (wr.ownsRow w.heap.size 9 1 pv k (tv (An.itp xs k))) ∧ Hid (Below w.heap.size w wr)) (fun _ i _ => xs.length - (intOf i).toNat)
  case atStart => exact ⟨0, Nat.zero_le _, rfl, HO1, HB⟩
  case round =>
    obtain ⟨k, hk, rfl, ho, hb⟩ := hrel
    by_cases hlt2 : k < xs.length
    · have hltz : (k : Int) < (xs.length : Int) := by omega
      obtain ⟨c0, c1⟩ := HPT.out wr hb.out k hlt2
      rw [An.nd_at hlt2] at c0 c1
      obtain ⟨b1, b2, b3, b4⟩ := HO.out.bd hlt2
      have hsn := Lib.hid (An.itp_snoc hlt2)
      have hbs := hb.out.size
      have T := Lib.hid (fun W h => textP_any xs[k] W h b1 b2 b3 b4)
      clear b1 b2 b3 b4
      generalize An.tx xs[k] = t at *
      generalize xs[k] = x at *
      have B3 := Lib.hid (hb.out.alloc hbs (.cells #[.int .i64 x.di, .int .i64 x.he] 36))
      have O3 := Lib.hid (ho.out.alloc (.cells #[.int .i64 x.di, .int .i64 x.he] 36))
      go_wp2_with fail
      refine (T.out _ (HP.out.below B3.out)).mono ?_
      rintro e w2 ⟨rfl, hb2⟩
      have ho2 := Lib.hid (ownsRow_belowAll O3.out hb2)
      have hb3 : Hid (Below w.heap.size w w2) := Lib.hid (bt B3.out hb2)
      have hbs2 := hb3.out.size
      clear ho hb B3 O3 hb2
      go_wp2_with (at_builtin; refine wpList_append_own _ rfl _ _ 80 rfl w.heap.size 9 i0 (.string ⟨#[]⟩) 1 16 Tryz.underlying80 hi hz0 hz1 hz2 rfl (by decide) _ _ _ rfl (ho2.out.alloc _) ⟨w2.heap.size, 0, none⟩ 1 1 [.string ⟨t.toArray⟩] rfl rfl (one_new _ _ _) (one_str _) ?d3 ?d4 ?d5 ?_)
      case d3 => unfold maxLen; omega
      case d4 => omega
      case d5 => first | omega | (simp; omega)
      intro v' w3 hown' hgrow _
      have hnx : Hid (w3.ownsRow w.heap.size 9 1 v' (k + 1) (tv (An.itp xs (k + 1)))) := Lib.hid (by rw [hsn.out]; unfold tv; rw [List.map_append]; exact hown')
      have hnb : Hid (Below w.heap.size w w3) := Lib.hid ((hb3.out.alloc hbs2 _).grown hgrow (by simp; omega) (fun j hj => (ho2.out.lt j hj).1))
      clear hown' hgrow ho2
      go_wp2
      exact ⟨⟨k + 1, by omega, by go_num, hnx, hnb⟩, by simp only [intOf]; omega⟩
    · have hltz : ¬ (k : Int) < (xs.length : Int) := by omega
      have hkz : k = xs.length := by omega
      subst hkz
      have hpl := An.pt_len HO.out xs.length (Nat.le_refl _)
      obtain ⟨g, cap2, rfl⟩ := Go.Joins.ownsRow_form ho.out (by omega)
      have C := Lib.hid (join32_any w.heap.size wr g cap2 xs.length (An.itp xs xs.length) ho.out (An.itp_length (Nat.le_refl _)) (by omega) (own_cap ho.out) (by rw [An.pt_itp]; omega))
      rw [An.pt_itp] at C
      have HB2 := hb.out.size
      clear ho hpl
      go_wp2_with fail
      refine C.out.mono ?_
      rintro e w2 ⟨rfl, hb2⟩
      go_wp2_with fail
      go_ret
      exact ⟨rfl, hb.out.trans (hb2.mono HB2)⟩
set_option maxHeartbeats 800000 in
theorem implPathText_any (w : World) (v : Value) (xs : List Pth) (hv : PpSl w v xs) (hl : xs.length ≤ 1048576) (hp : Pow w) :
    Calls Tryz.prog 12 #[v] w fun e w' => e = .returned (.string ⟨(An.ptx xs).toArray⟩) ∧ Below w.heap.size w w' := by
  have C := Lib.hid (implValidPath_any w v xs hv hl)
  cases h : An.okB xs with
  | false =>
    rw [h] at C
    rw [An.ptx_no h]
    clear h hv
    go_enter Tryz.func12, Tryz.ntmps12
    go_wp2_with fail
    refine C.out.mono ?_
    rintro e w1 ⟨rfl, b1⟩
    have B1 := Lib.hid b1
    clear b1
    go_wp2_with fail
    go_ret
    exact ⟨rfl, B1.out⟩
  | true =>
    have CT := Lib.hid (fun W (hb : Below w.heap.size w W) => joinedP_any W v xs (hv.below hb) (An.okB_ok h) (hp.below hb))
    rw [h] at C
    rw [An.ptx_ok h]
    clear h hv hp
    generalize An.pt xs xs.length = t at *
    go_enter Tryz.func12, Tryz.ntmps12
    go_wp2_with fail
    refine C.out.mono ?_
    rintro e w1 ⟨rfl, b1⟩
    have B1 := Lib.hid b1
    clear b1
    go_wp2_with fail
    refine (CT.out _ B1.out).mono ?_
    rintro e w2 ⟨rfl, b2⟩
    have B2 := Lib.hid (bt B1.out b2)
    clear b2
    go_wp2_with fail
    go_ret
    exact ⟨rfl, B2.out⟩
end Go.Proofs.YtmieckchppfogaaGreatDoor

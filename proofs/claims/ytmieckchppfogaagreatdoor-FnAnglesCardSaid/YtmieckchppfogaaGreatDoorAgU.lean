/-
  A path read back out of its text: what is answered, and the program (chapter 14). No condition of its own but what ReadDecimal asks.
-/
import Derived.Test.YtmieckchppfogaaGreatDoorAgT
import Derived.Test.YtmieckchppfogaaGreatDoorCutL
import Derived.Test.YtmieckchppfogaaGreatDoorPthM
namespace Go.Proofs.YtmieckchppfogaaGreatDoor
open Go.RowKit Go.ChangeShapes Go.WideShapes Go.Deep Go.Shelf
set_option linter.unusedVariables false
set_option maxRecDepth 100000

namespace An
/-- the two parts of a point's text -/
def ca (p : List UInt8) : List UInt8 := (Lib.cut p [58]).1
def cb (p : List UInt8) : List UInt8 := (Lib.cut p [58]).2.1
/-- the point with a text -/
def rq (p : List UInt8) : Option Pth := match Nu.rd (ca p), Nu.rd (cb p) with | some d, some h => some ⟨d, h⟩ | _, _ => none
/-- the points with texts -/
def mpq : List (List UInt8) → Option (List Pth)
  | [] => some []
  | p :: ps => match rq p, mpq ps with | some v, some vs => some (v :: vs) | _, _ => none
def vq (o : Option (List Pth)) : Option (List Pth) := o.bind fun xs => if okB xs = true then some xs else none
/-- the path with a text -/
def rp (l : List UInt8) : Option (List Pth) := vq (mpq (spl 32 l))
theorem mpq_snoc {l : List (List UInt8)} {p : List UInt8} {zs : List Pth} {v : Pth} (h1 : mpq l = some zs) (h2 : rq p = some v) : mpq (l ++ [p]) = some (zs ++ [v]) := by
  induction l generalizing zs with
  | nil => simp only [mpq, Option.some.injEq] at h1; subst h1; simp [mpq, h2]
  | cons q l ih =>
    simp only [mpq] at h1
    split at h1
    · rename_i w vs hq hl
      simp only [Option.some.injEq] at h1
      subst h1
      rw [List.cons_append, mpq, hq, ih hl]
      rfl
    · cases h1
theorem mpq_none {l : List (List UInt8)} {p : List UInt8} (h : p ∈ l) (h2 : rq p = none) : mpq l = none := by
  induction l with
  | nil => cases h
  | cons q l ih =>
    rw [mpq]
    rcases List.mem_cons.1 h with h | h
    · subst h; rw [h2]
    · rw [ih h]; split <;> simp_all
theorem mpq_len {l : List (List UInt8)} {zs : List Pth} (h : mpq l = some zs) : zs.length = l.length := by
  induction l generalizing zs with
  | nil => simp only [mpq, Option.some.injEq] at h; subst h; rfl
  | cons q l ih =>
    simp only [mpq] at h
    split at h
    · rename_i w vs hq hl
      simp only [Option.some.injEq] at h
      subst h
      simp [ih hl]
    · cases h
theorem vq_none : vq none = none := rfl
theorem vq_bad {xs : List Pth} (h : okB xs = false) : vq (some xs) = none := by show (if okB xs = true then some xs else none) = none; rw [h]; rfl
theorem vq_ok {xs : List Pth} (h : okB xs = true) : vq (some xs) = some xs := by show (if okB xs = true then some xs else none) = _; rw [if_pos h]
theorem vq_long {l : List (List UInt8)} (h : 24 < l.length) : vq (mpq l) = none := by
  cases hm : mpq l with
  | none => rfl
  | some xs => exact vq_bad (okB_len (by have := mpq_len hm; omega))
theorem vq_len (o : Option (List Pth)) : ((vq o).getD []).length ≤ 24 := by
  cases o with
  | none => simp [vq_none]
  | some xs =>
    cases h : okB xs with
    | false => rw [vq_bad h]; simp
    | true => rw [vq_ok h]; exact (okB_ok h).n24
theorem rp_len (l : List UInt8) : ((rp l).getD []).length ≤ 1048576 := by
  have := vq_len (mpq (spl 32 l)); unfold rp; omega
theorem rq_some {p : List UInt8} {x : Pth} (h : rq p = some x) : Nu.rd (ca p) = some x.di ∧ Nu.rd (cb p) = some x.he := by
  unfold rq at h
  split at h
  · next a b ha hb => simp only [Option.some.injEq] at h; subst h; exact ⟨ha, hb⟩
  · cases h
theorem rq_none {p : List UInt8} (h : rq p = none) : ((Nu.rd (ca p)).isSome && (Nu.rd (cb p)).isSome) = false := by
  unfold rq at h
  split at h
  · cases h
  · next hx =>
    cases ha : Nu.rd (ca p) with
    | none => rfl
    | some a =>
      cases hb : Nu.rd (cb p) with
      | none => rfl
      | some b => exact absurd hb (fun hb => hx a b ha hb)
theorem rq_nil : rq [] = none := by decide
theorem ca_len (p : List UInt8) : (ca p).length ≤ p.length := (cut_len 58 p).1
theorem cb_len (p : List UInt8) : (cb p).length ≤ p.length := (cut_len 58 p).2
end An
/-- the parts that the program sees: 25 at most -/
def cut32 (s : ByteArray) : List (List UInt8) := Lib.splitK [32] 0 (min 25 (s.size + 1) - 1) s.data.toList
theorem cut32_vq (s : ByteArray) : An.vq (An.mpq (cut32 s)) = An.vq (An.mpq (spl 32 s.data.toList)) := by
  have hl := spl_len 32 s.data.toList
  have hz : s.data.toList.length = s.size := by simp
  by_cases h : (spl 32 s.data.toList).length ≤ min 25 (s.size + 1) - 1 + 1
  · unfold cut32; rw [(splitK_spl 32 _ _).1 h]
  · have he : min 25 (s.size + 1) - 1 = 24 := by omega
    have h2 := (splitK_spl 32 (min 25 (s.size + 1) - 1) s.data.toList).2 (by omega)
    rw [An.vq_long (by unfold cut32; rw [h2, he]; omega), An.vq_long (by omega)]
theorem cut32_len (s : ByteArray) : (cut32 s).length ≤ 25 := by
  by_cases h : (spl 32 s.data.toList).length ≤ min 25 (s.size + 1) - 1 + 1
  · unfold cut32; rw [(splitK_spl 32 _ _).1 h]; omega
  · have h2 := (splitK_spl 32 (min 25 (s.size + 1) - 1) s.data.toList).2 (by omega)
    unfold cut32; rw [h2]; omega
theorem splitKp_part (c : List UInt8) : ∀ (k : Nat) (l : List UInt8), ∀ p ∈ Lib.splitK c 0 k l, p.length ≤ l.length
  | 0, l, p, h => by simp [Lib.splitK] at h; subst h; exact Nat.le_refl _
  | k + 1, l, p, h => by
    rw [Lib.splitK] at h
    split at h
    · simp at h; subst h; exact Nat.le_refl _
    · rcases List.mem_cons.1 h with h | h
      · subst h; rw [List.length_take]; omega
      · have := splitKp_part c k _ p h
        rw [List.length_drop] at this; omega
theorem cut32_part (s : ByteArray) : ∀ p ∈ cut32 s, p.length ≤ s.size := by
  intro p hp
  have hz : s.data.toList.length = s.size := by simp
  have := splitKp_part [32] _ _ p hp
  omega
/-- how a reader of a path ends -/
def RPq (w : World) (o : Option (List Pth)) (e : Ending) (w' : World) : Prop := ∃ u, e = .returned (.tuple #[u, .bool o.isSome]) ∧ PpOwn w.heap.size w' u (o.getD []) ∧ Below w.heap.size w w'
theorem RPq.no {w w' : World} {o : Option (List Pth)} (ho : o = none) (hb : Below w.heap.size w w') : RPq w o (.returned (.tuple #[.slice none 0 0, .bool false])) w' := by
  subst ho; exact ⟨_, rfl, PpOwn.nil _ _, hb⟩
theorem RPq.yes {w w' : World} {o : Option (List Pth)} {zs : List Pth} {u : Value} (ho : o = some zs) (hu : PpOwn w.heap.size w' u zs) (hb : Below w.heap.size w w') : RPq w o (.returned (.tuple #[u, .bool true])) w' := by
  subst ho; exact ⟨_, rfl, hu, hb⟩
theorem splitN32_any (s : ByteArray) (w : World) (hs : s.size ≤ 1048576) (hm : MaxL w) :
    Calls Tryz.prog 51 #[.string s, .string ⟨#[32]⟩, .int .i64 25] w fun e w' => ∃ cap, e = .returned (.slice (some ⟨w.heap.size, 0, none⟩) (cut32 s).length cap) ∧ Strs w.heap.size w' (.slice (some ⟨w.heap.size, 0, none⟩) (cut32 s).length cap) (cut32 s) ∧ Below w.heap.size w w' := by
  obtain ⟨m, hm⟩ := hm
  have hd : (Lib.splitB ⟨#[32]⟩ 0 (min 25 (s.size + 1) - 1) s).map (·.data.toList) = cut32 s := Lib.splitB_data ⟨#[32]⟩ 0 _ s
  have hl : (Lib.splitB ⟨#[32]⟩ 0 (min 25 (s.size + 1) - 1) s).length = (cut32 s).length := by rw [← hd, List.length_map]
  have hle := Lib.splitB_length_le ⟨#[32]⟩ 0 (min 25 (s.size + 1) - 1) s
  have ht : tvl (cut32 s) = (Lib.splitB ⟨#[32]⟩ 0 (min 25 (s.size + 1) - 1) s).map Value.string := by
    unfold tvl; rw [← hd, List.map_map]
    rfl
  refine (Any.strings_SplitN { Tryz.laysM147 with } Tryz.laysM147.i9 s ⟨#[32]⟩ 25 m w (by omega) hm (by decide) (by decide) (by decide)).mono ?_
  rintro e w' ⟨rfl, rfl⟩
  refine ⟨min 25 (s.size + 1), by rw [hl], ?_, (Below.refl _ _).alloc (Nat.le_refl _) _⟩
  refine ⟨by rw [tvl_length, Nat.mul_one], Or.inr ⟨w.heap.size, _, _, rfl, Nat.le_refl _, heap_alloc_new w _, by omega, by unfold maxLen; omega, by rw [Lib.cellsOf_size (by omega), Nat.mul_one], ?_⟩⟩
  rw [ht, Nat.mul_one, ← hl]
  unfold Lib.cellsOf
  simp
set_option maxHeartbeats 1600000 in
theorem readPoint_any (p : List UInt8) (hp : p.length ≤ 1048576) (w : World) (hpw : Pow w) (her : Errs w) (hml : MaxL w) :
    Calls Tryz.prog 30 #[.string ⟨p.toArray⟩] w fun e w' => e = .returned (.tuple #[.agg #[.int .i64 ((Nu.rd (An.ca p)).getD 0), .int .i64 ((Nu.rd (An.cb p)).getD 0)], .bool ((Nu.rd (An.ca p)).isSome && (Nu.rd (An.cb p)).isSome)]) ∧ Below w.heap.size w w' := by
  have Z0 := Lib.hid (Whole.new w 36 #[.int .i64 0, .int .i64 0])
  have B0 := Lib.hid ((Below.refl w.heap.size w).alloc (Nat.le_refl _) (.cells #[.int .i64 0, .int .i64 0] 36))
  have CC := Lib.hid (fun W (hb : Below w.heap.size w W) => cut_any ⟨p.toArray⟩ 58 W (by rw [sz_mk]; exact hp) (hml.below hb))
  simp only at CC
  have CA := Lib.hid (fun W (hb : Below w.heap.size w W) => decimal_at (An.ca p) (Nat.le_trans (An.ca_len p) hp) W (hpw.below hb) (her.below hb))
  have CB := Lib.hid (fun W (hb : Below w.heap.size w W) => decimal_at (An.cb p) (Nat.le_trans (An.cb_len p) hp) W (hpw.below hb) (her.below hb))
  have F1 : (Lib.cut p [58]).1 = An.ca p := rfl
  have F2 : (Lib.cut p [58]).2.1 = An.cb p := rfl
  simp only [F1, F2] at CC
  clear F1 F2 hpw her hml hp
  generalize (Lib.cut p [58]).2.2 = found at *
  generalize An.ca p = l1 at *
  generalize An.cb p = l2 at *
  generalize (Nu.rd l1).getD 0 = d at *
  generalize (Nu.rd l2).getD 0 = y at *
  generalize (Nu.rd l1).isSome = q1 at *
  generalize (Nu.rd l2).isSome = q2 at *
  go_enter Tryz.func30, Tryz.ntmps30
  go_wp2_with fail
  refine (CC.out _ B0.out).mono ?_
  rintro e w1 ⟨rfl, b1⟩
  have B1 := Lib.hid (bt B0.out b1)
  have Z1 := Lib.hid (Z0.out.all b1)
  clear b1 Z0
  go_wp2_with fail
  refine (CA.out _ B1.out).mono ?_
  rintro e w2 ⟨rfl, b2⟩
  have B2 := Lib.hid (bt B1.out b2)
  have Z2 := Lib.hid (Z1.out.all b2)
  clear b2 Z1
  go_wp2_with fail
  refine (CB.out _ B2.out).mono ?_
  rintro e w3 ⟨rfl, b3⟩
  have B3 := Lib.hid (bt B2.out b3)
  have Z3 := Z2.out.all b3
  clear b3 Z2
  have f0 := Z3.free 0
  have f1 := Z3.free 1
  have k0 := Z3.at_ 0
  have k1 := Z3.at_ 1
  have G3 := only_setCell (only_setCell (only_of_below (Below.refl w3.heap.size w3) (some w.heap.size)) (p := ⟨w.heap.size, 0, none⟩) rfl (.int .i64 d)) (p := ⟨w.heap.size, 1, none⟩) rfl (.int .i64 y)
  have S3 : Whole ((w3.setCell ⟨w.heap.size, 0, none⟩ (.int .i64 d)).setCell ⟨w.heap.size, 1, none⟩ (.int .i64 y)) w.heap.size 36 #[.int .i64 d, .int .i64 y] := by simpa using (Z3.put 0 (.int .i64 d)).put 1 (.int .i64 y)
  have B4 := Lib.hid (below_only B3.out G3 (Nat.le_refl _) B3.out.size)
  have HS3 := Lib.hid S3
  clear G3 S3 Z3
  cases q1
  · go_wp2_with fail
    have q0 := HS3.out.at_ 0
    have q1 := HS3.out.at_ 1
    generalize (w3.setCell ⟨w.heap.size, 0, none⟩ (.int .i64 d)).setCell ⟨w.heap.size, 1, none⟩ (.int .i64 y) = W4 at *
    exact bodyPost_ret (v := .tuple #[.agg #[.int .i64 d, .int .i64 y], .bool false]) (by simp [results, Tryz.results30, go_sem, q0, q1]) rfl ⟨rfl, B4.out⟩
  · go_wp2_with fail
    have q0 := HS3.out.at_ 0
    have q1 := HS3.out.at_ 1
    generalize (w3.setCell ⟨w.heap.size, 0, none⟩ (.int .i64 d)).setCell ⟨w.heap.size, 1, none⟩ (.int .i64 y) = W4 at *
    exact bodyPost_ret (v := .tuple #[.agg #[.int .i64 d, .int .i64 y], .bool q2]) (by simp [results, Tryz.results30, go_sem, q0, q1]) rfl ⟨by rw [Bool.true_and], B4.out⟩
theorem ppOwn_lit0 (w : World) : PpOwn w.heap.size (w.alloc (.cells #[] 36)) (.slice (some ⟨w.heap.size, 0, none⟩) 0 0) [] := World.ownsRow_lit _ #[] 0 (Nat.le_refl _) (by decide) (by decide)
theorem newsP_two (w : World) (o : Obj) (x : Pth) (t : TypeId) : ∀ j u, (iv (Pp.lv x))[j]? = some u → ((w.alloc o).alloc (.cells #[.int .i64 x.di, .int .i64 x.he] t)).cell? ((⟨w.heap.size + 1, 0, none⟩ : Addr).add j) = some u := by
  have h := row_new (w.alloc o) (iv (Pp.lv x)) t
  have e : (w.alloc o).heap.size = w.heap.size + 1 := by simp
  rw [e] at h
  exact h
theorem onePt (x : Pth) : ∀ u ∈ iv (Pp.lv x), u.oneCell' = true := iv_cell (Pp.lv x)
theorem ppOwn_push {B : Nat} {w : World} {v : Value} {zs : List Pth} {x : Pth} (h : w.ownsRow B 36 2 v (zs.length + 1) (iv (Pp.fl zs) ++ iv (Pp.lv x))) : PpOwn B w v (zs ++ [x]) := by
  have e : Pp.fl (zs ++ [x]) = Pp.fl zs ++ Pp.lv x := by rw [Pp.fl_app, Pp.fl_one]
  unfold PpOwn; rw [e, iv_append, List.length_append]; exact h
set_option maxHeartbeats 3200000 in
theorem readPartsP_any (s : ByteArray) (w : World) (hs : s.size ≤ 1048576) (hpw : Pow w) (her : Errs w) (hml : MaxL w) :
    Calls Tryz.prog 29 #[.string s, .string ⟨#[32]⟩, .int .i64 24, .func (.func 30) #[] #[]] w (RPq w (An.mpq (cut32 s))) := by
  obtain ⟨i0, hi, hz0, hz1, hz2⟩ := info_parts info_PathPoint
  have eg := enters_of Tryz.func30 (by kernel_rfl) rfl
  have hpl := Lib.hid (cut32_part s)
  have C := Lib.hid (splitN32_any s w hs hml)
  have hq17 := cut32_len s
  have HPW := Lib.hid hpw
  have HER := Lib.hid her
  have HML := Lib.hid hml
  have hss := Lib.hid hs
  clear hpw her hml
  generalize cut32 s = Q at *
  go_enter Tryz.func29, Tryz.ntmps29
  go_wp2_with fail
  refine C.out.mono ?_
  rintro e w1 ⟨cap, rfl, hst, hb1⟩
  have HST := Lib.hid hst
  have HB1 := Lib.hid hb1
  have hB1 := hb1.size
  clear hst hb1
  go_wp2_with (at_make; refine wpList_make_own _ rfl _ _ 24 rfl w1.heap.size 36 i0 _ 2 Tryz.underlying24 hi hz0 hz1 .i64 .i64 _ Q.length rfl rfl rfl ?m1 ?m2 ?m3 ?_)
  case m1 => first | omega | (rw [hz2]; omega)
  case m2 => unfold maxLen; omega
  case m3 => exact Nat.le_refl _
  intro w1b hown hgr
  have HO : Hid (PpOwn w1.heap.size w1b (.slice (some ⟨w1.heap.size, 0, none⟩) 0 Q.length) []) := Lib.hid hown
  have HBb : Hid (Below w1.heap.size w1 w1b) := Lib.hid ((Below.refl _ w1).grown hgr (Nat.le_refl _) (fun k hk => by cases hk))
  clear hown hgr
  go_wp2
  go_loopw [11, 26] (fun ov iv wr => ∃ (k : Nat) (zs : List Pth), k ≤ Q.length ∧ zs.length = k ∧ iv = .int .i64 k ∧ Hid (PpOwn w1.heap.size wr ov zs) ∧ Hid (Below w1.heap.size w1 wr) ∧ Hid (An.mpq (Q.take k) = some zs)) (fun _ iv _ => Q.length - (intOf iv).toNat)
  case atStart => exact ⟨0, [], Nat.zero_le _, rfl, rfl, HO, HBb, Lib.hid rfl⟩
  case round =>
    obtain ⟨k, zs, hk, hzk, rfl, ho, hb, hmp⟩ := hrel
    have HZK := Lib.hid hzk
    have hzk' : zs.length ≤ 25 := by omega
    clear hzk
    by_cases hlt : k < Q.length
    · obtain ⟨g, cap', hg0, hg, hc⟩ := strs_form HST.out (by omega)
      simp only [Value.slice.injEq, Option.some.injEq, Addr.mk.injEq, and_true] at hg0
      obtain ⟨rfl, -, rfl⟩ := hg0
      have hpk : Q[k]? = some Q[k] := List.getElem?_eq_getElem hlt
      have c1 : wr.cell? ⟨w.heap.size, k, none⟩ = some (.string ⟨(Q[k]).toArray⟩) := (hb.out.cell (p := ⟨w.heap.size, k, none⟩) hg).trans (hc k _ hpk)
      have hpn : (Q[k]).length ≤ 1048576 := by have := hpl.out Q[k] (List.getElem_mem hlt); have := hss.out; omega
      have HMem := Lib.hid (List.getElem_mem hlt)
      have hsn : Hid (Q.take (k + 1) = Q.take k ++ [Q[k]]) := Lib.hid (by rw [List.take_succ_eq_append_getElem hlt])
      clear hpk hc
      generalize Q[k] = p at *
      have BW := Lib.hid (HB1.out.trans (hb.out.mono hB1))
      have CN := Lib.hid (readPoint_any p hpn wr (HPW.out.below BW.out) (HER.out.below BW.out) (HML.out.below BW.out))
      have hbs := hb.out.size
      rcases hrd : An.rq p with _ | x
      · have hfin : Hid (An.mpq Q = none) := Lib.hid (An.mpq_none HMem.out hrd)
        rw [An.rq_none hrd] at CN
        clear hrd
        go_wp2_with fail
        refine CN.out.mono ?_
        rintro e w2 ⟨rfl, hb2⟩
        have hb3 : Hid (Below w.heap.size w w2) := Lib.hid (bt BW.out hb2)
        have hb4 : Hid (∀ o, Below w.heap.size w (w2.alloc o)) := Lib.hid (fun o => hb3.out.alloc hb3.out.size o)
        clear hb2
        go_wp2_with fail
        go_ret2
        exact RPq.no hfin.out (hb4.out _)
      · have hn : Hid (An.mpq (Q.take (k + 1)) = some (zs ++ [x])) := Lib.hid (by rw [hsn.out]; exact An.mpq_snoc hmp.out hrd)
        obtain ⟨ra, rb⟩ := An.rq_some hrd
        rw [ra, rb] at CN
        clear hrd ra rb
        simp only [Option.getD_some, Option.isSome_some, Bool.and_self] at CN
        go_wp2_with fail
        refine CN.out.mono ?_
        rintro e w2 ⟨rfl, hb2⟩
        have hb3 : Hid (Below w1.heap.size w1 w2) := Lib.hid (hb.out.trans (hb2.mono hbs))
        have ho3 : Hid (PpOwn w1.heap.size w2 _ zs) := Lib.hid (ho.out.belowAll hb2)
        have hbs3 := hb3.out.size
        clear hb2
        go_wp2_with (at_builtin; refine wpList_append_own _ rfl _ _ 24 rfl w1.heap.size 36 i0 _ 2 16 Tryz.underlying24 hi hz0 hz1 hz2 rfl (by decide) _ _ _ rfl ((ho3.out.alloc _).alloc _) ⟨w2.heap.size + 1, 0, none⟩ 1 1 (iv (Pp.lv x)) rfl rfl (newsP_two w2 _ x _) (onePt x) ?c3 ?c4 ?c5 ?_)
        case c3 => unfold maxLen; omega
        case c4 => omega
        case c5 => first | omega | (simp; omega)
        intro v' w3 hown' hgrow _
        have hnx : Hid (PpOwn w1.heap.size w3 v' (zs ++ [x])) := Lib.hid (ppOwn_push hown')
        have hnb : Hid (Below w1.heap.size w1 w3) := Lib.hid (((hb3.out.alloc hbs3 _).alloc (by simp; omega) _).grown hgrow (by simp; omega) (fun j hj => (World.ownsRow.lt ho3.out j hj).1))
        clear hown' hgrow ho hb ho3 hb3
        go_wp2
        exact ⟨⟨k + 1, zs ++ [x], by omega, by rw [List.length_append, HZK.out]; rfl, by go_num, hnx, hnb, hn⟩, by simp only [intOf]; omega⟩
    · have hke : k = Q.length := by omega
      have hfin : Hid (An.mpq Q = some zs) := Lib.hid (by have := hmp.out; rw [hke, List.take_length] at this; exact this)
      have BW := Lib.hid (HB1.out.trans (hb.out.mono hB1))
      clear hke
      go_wp2_with fail
      go_ret2
      exact RPq.yes hfin.out (ho.out.le hB1) BW.out
set_option maxHeartbeats 1600000 in
theorem implReadPath_any (s : ByteArray) (w : World) (hs : s.size ≤ 1048576) (hpw : Pow w) (her : Errs w) (hml : MaxL w) :
    Calls Tryz.prog 11 #[.string s] w (RPq w (An.rp s.data.toList)) := by
  have C := Lib.hid (readPartsP_any s w hs hpw her hml)
  have E : Hid (An.rp s.data.toList = An.vq (An.mpq (cut32 s))) := Lib.hid (by unfold An.rp; rw [cut32_vq])
  have hl : ∀ zs, An.mpq (cut32 s) = some zs → zs.length ≤ 25 := fun zs h => by have := An.mpq_len h; have := cut32_len s; omega
  have HL := Lib.hid hl
  clear hs hpw her hml hl
  generalize An.rp s.data.toList = o at *
  generalize cut32 s = Q at *
  rcases hm : An.mpq Q with _ | zs
  · rw [hm] at C
    have hfin : Hid (o = none) := Lib.hid (by rw [E.out, hm]; rfl)
    clear hm E HL
    unfold RPq at C
    simp only [Option.getD_none, Option.isSome_none] at C
    go_enter Tryz.func11, Tryz.ntmps11
    go_wp2_with fail
    refine C.out.mono ?_
    rintro e w1 ⟨u, rfl, o1, b1⟩
    have B1 := Lib.hid b1
    clear b1
    go_wp2_with fail
    go_ret2
    exact RPq.no hfin.out B1.out
  · have hzl := HL.out zs hm
    rw [hm] at C
    unfold RPq at C
    simp only [Option.getD_some, Option.isSome_some] at C
    cases hq : An.okB zs with
    | false =>
      have hfin : Hid (o = none) := Lib.hid (by rw [E.out, hm]; exact An.vq_bad hq)
      clear hm E HL
      go_enter Tryz.func11, Tryz.ntmps11
      go_wp2_with fail
      refine C.out.mono ?_
      rintro e w1 ⟨u, rfl, o1, b1⟩
      have B1 := Lib.hid b1
      have CV := implValidPath_any w1 u zs o1.sl (by omega)
      rw [hq] at CV
      have CV := Lib.hid CV
      clear b1 o1 hq
      go_wp2_with fail
      refine CV.out.mono ?_
      rintro e w2 ⟨rfl, b2⟩
      have B2 := Lib.hid (bt B1.out b2)
      clear b2
      go_wp2_with fail
      go_ret2
      exact RPq.no hfin.out B2.out
    | true =>
      have hfin : Hid (o = some zs) := Lib.hid (by rw [E.out, hm]; exact An.vq_ok hq)
      clear hm E HL
      go_enter Tryz.func11, Tryz.ntmps11
      go_wp2_with fail
      refine C.out.mono ?_
      rintro e w1 ⟨u, rfl, o1, b1⟩
      have B1 := Lib.hid b1
      have O1 := Lib.hid o1
      have CV := implValidPath_any w1 u zs o1.sl (by omega)
      rw [hq] at CV
      have CV := Lib.hid CV
      clear b1 o1 hq
      go_wp2_with fail
      refine CV.out.mono ?_
      rintro e w2 ⟨rfl, b2⟩
      have B2 := Lib.hid (bt B1.out b2)
      have O2 := Lib.hid (O1.out.belowAll b2)
      clear b2 O1
      go_wp2_with fail
      go_ret2
      exact RPq.yes hfin.out O2.out B2.out
end Go.Proofs.YtmieckchppfogaaGreatDoor

/-
  The cells next to a cell, by the program (chapter 9). The conditions: the table of ways as it is laid. (Written by wip/gen/gennb.py.)
-/
import Derived.Test.YthcmpalbhaefbaaDoorRnd
import Derived.Test.YthcmpalbhaefbaaDoorTrR
import Derived.Test.YthcmpalbhaefbaaDoorTrK
import Derived.Test.YthcmpalbhaefbaaDoorPtM
import Derived.Test.YthcmpalbhaefbaaDoorSrt
import Derived.Test.YthcmpalbhaefbaaDoorBoM
import Derived.Maps.OwnIn
namespace Go.Proofs.YthcmpalbhaefbaaDoor
open Go.RowKit Go.Shelf Go.Deep Go.Sort
set_option linter.unusedVariables false
set_option maxRecDepth 100000
attribute [local go_sem] Oper.semAt_some
theorem stepIn_append_own_at {F : Fence} {n : Nat} {P : Program} {w : World} {ops : Array Oper} {o : Oper} {a : Act} {K : Act → World → Prop} {Q : Exit → Act → World → Prop} {E : Prop} (hgd : o.guard = none) (s x : Operand) (t : TypeId)
    (ho : o.op = .call { callee := .builtin .append, args := #[s, x], argTypes := #[t, t] })
    (base : Nat) (e : TypeId) (i : TypeInfo) (z : Value) (size bytes : Nat) (ht : P.underlying t = some (.slice e)) (hi : P.info? e = some i) (hz : i.zero = some z)
    (hsize : i.size = size) (hby : i.bytes = bytes) (hzs : z.cells.size = size) (hsz : 0 < size)
    (v : Value) (m0 : Nat) (xs : List Value) (hs : a.eval s = v) (hown : w.ownsRow base e size v m0 xs)
    (ad : Addr) (m c : Nat) (news : List Value) (hx : a.eval x = .slice (some ad) m c) (hl : news.length = m * size) (hnews : ∀ j u, news[j]? = some u → w.cell? (ad.add j) = some u) (h1 : ∀ u ∈ news, u.oneCell' = true)
    (h63 : m0 + m ≤ maxLen) (hbytes : (m0 + m) * bytes ≤ 140737488355328) (hbase : base ≤ w.heap.size)
    (h : ∀ v' w', w'.ownsRow base e size v' (m0 + m) (xs ++ news) → w.grownBy w' v.ownBlock → (v'.ownBlock = v.ownBlock ∨ v'.ownBlock = some w.heap.size) → K (a.put o.dst v') w') :
    if Region.wanted o (yielded ops a.tmps) = true then Oper.wpIn F n P o a w K Q else E := by
  have hw : Region.wanted o (yielded ops a.tmps) = true := by simp [Region.wanted, hgd]
  rw [if_pos hw]
  obtain ⟨v', w', hr, h2, h3, h4, h5⟩ := run_append_own_at (P := P) w base t o.type e i z size bytes ht hi hz hsize hby hzs hsz v m0 xs hown ad m c news hl hnews h1 h63 hbytes hbase
  unfold Oper.wpIn
  refine ⟨by simp [Oper.about, ho, resolve, Target.leads, Sem.run_pure], ?_⟩
  rw [Oper.semAt_plain F _ _ (by rw [ho]; intro c hc'; cases hc')]
  simp [execOp, ho, resolve, invoke, builtin, hs, hx, hr, Result.andThen]
  exact h v' w' h2 h3 h5
theorem keeps_belowN {B : Nat} {w w' : World} (h : Below w.heap.size w w') : KeepsFrom B w w' := ⟨h.size, fun k o _ hk _ => (h.block k (Array.getElem?_eq_some_iff.1 hk).1).trans hk⟩
theorem boxed_belowB {W W' : World} {B : Nat} {t : TypeId} {v : Value} (h : Boxed W B t v) (hb : Below W.heap.size W W') : Boxed W' B t v := (hb.block B h.lt).trans h
theorem ownFrom_bp {β : Type} {n B : Nat} {P : Nat → Prop} {w₀ : World} (hn : n ≤ w₀.heap.size) (hB : n ≤ B) : OwnFrom B (fun (_ : β) W => BP n P w₀ W) :=
  fun _ X Y row hs hg hr => hs.trans (BP.of ((Below.refl n X).grown hg (Nat.le_trans hn hs.size) (fun k e => Nat.le_trans hB (hr k e).1)))
/-- the cells so far, in their box -/
def NbJ (rb cb n0 : Nat) (R C : Int) (k : Nat) (l : List Nat) (W : World) : Prop :=
  ∃ v, Boxed W cb 22 v ∧ W.ownsRow rb 2 1 v (l.map (Gw.goC R C k)).length (iv (l.map (Gw.goC R C k))) ∧ (∀ j, v.ownBlock = some j → j = rb ∨ n0 ≤ j)
theorem nbJ_own (rb cb n0 : Nat) (R C : Int) (k : Nat) {β : Type} (f : β → List Nat) : Go.Own (fun s W => NbJ rb cb n0 R C k (f s) W) := fun s X Y row hs hg hr => by
  obtain ⟨v, h1, h2, h3⟩ := holdsRow_own rb cb 22 2 1 (fun s : β => ((f s).map (Gw.goC R C k)).length) (fun s => iv ((f s).map (Gw.goC R C k))) (fun _ v => ∀ j, v.ownBlock = some j → j = rb ∨ n0 ≤ j) s X Y row hs hg hr
  exact ⟨v, h1, h2, h3⟩
theorem nb_end {rb cb n0 : Nat} {P : Nat → Prop} {R C : Int} {k N a : Nat} {l : List Nat} {w0 W wA w7 : World} {v v' : Value} {tmp : Obj}
    (hI : Gw.goC R C k a = (N : Int)) (hB1 : BP n0 P w0 W) (bA : Below W.heap.size W wA) (hgrow : (wA.alloc tmp).grownBy w7 v.ownBlock) (hat : v'.ownBlock = v.ownBlock ∨ v'.ownBlock = some (wA.alloc tmp).heap.size)
    (hgo : ∀ j, v.ownBlock = some j → j = rb ∨ n0 ≤ j) (hrP : P rb) (hcP : P cb) (hk2 : KeepsOthers wA (w7.setCell ⟨cb, 0, none⟩ v')) (hv2 : Boxed (w7.setCell ⟨cb, 0, none⟩ v') cb 22 v')
    (hr2 : (w7.setCell ⟨cb, 0, none⟩ v').ownsRow rb 2 1 v' ((l.map (Gw.goC R C k)).length + 1) (iv (l.map (Gw.goC R C k)) ++ [.int .i64 (N : Int)])) (hn : n0 ≤ W.heap.size) {B : Nat} :
    KeepsFrom B W (w7.setCell ⟨cb, 0, none⟩ v') ∧ BP n0 P W (w7.setCell ⟨cb, 0, none⟩ v') ∧ NbJ rb cb n0 R C k (l ++ [a]) (w7.setCell ⟨cb, 0, none⟩ v') ∧ BP n0 P w0 (w7.setCell ⟨cb, 0, none⟩ v') := by
  have hA : n0 ≤ wA.heap.size := Nat.le_trans hn bA.size
  have hBP : BP n0 P W (w7.setCell ⟨cb, 0, none⟩ v') := (((BP.of (bA.mono hn)).trans (BP.of ((Below.refl n0 wA).alloc hA tmp))).trans (BP.grown hgrow (fun j e => by rcases hgo j e with h | h; exact Or.inr (h ▸ hrP); exact Or.inl h) (by simp; omega))).trans (BP.put w7 hcP 0 v')
  refine ⟨(keeps_belowN bA).trans (hk2.from _), hBP, ⟨v', hv2, ?_, fun j e => ?_⟩, hB1.trans hBP⟩
  · rw [List.map_append, List.map_cons, List.map_nil, hI, iv_append, List.length_append]; exact hr2
  · rcases hat with h | h
    · exact hgo j (h ▸ e)
    · rw [h] at e
      simp only [Option.some.injEq] at e
      right; rw [← e]; simp; omega
theorem sortG_any (B : Nat) (w : World) (v : Value) (zs : List Int) (h : Own B w v zs) (hl : zs.length ≤ 1048576) :
    Calls Tryd.prog 51 #[v] w fun e w' => e = .returned (.tuple #[]) ∧ Own B w' v (srt zs) ∧ w.grownBy w' v.ownBlock := by
  unfold Own at h ⊢
  rcases h.2 with ⟨h0, h1⟩ | ⟨g, cap, cur, hv, hg, hb, h1, h2, h3, h4⟩
  · have hz : zs = [] := List.eq_nil_of_length_eq_zero h1
    subst hz
    rw [h0]
    refine (Tryd.slices_Sort_int_none none 0 w).mono ?_
    rintro e w' ⟨rfl, rfl⟩
    rw [← h0]
    have hs : srt [] = [] := List.eq_nil_of_length_eq_zero (srt_len [])
    rw [hs]
    exact ⟨rfl, h, ⟨rfl, rfl, rfl, Nat.le_refl _, fun _ _ _ => rfl⟩⟩
  · subst hv
    rw [Nat.mul_one] at h4
    unfold iv at h4
    have hlt : g < w.heap.size := (Array.getElem?_eq_some_iff.1 hb).1
    refine (Tryd.slices_Sort_int g 0 cap zs w (holds_of_blockI hb h4) hlt (by omega)).mono ?_
    rintro e w' ⟨rfl, n, os, rfl⟩
    have ho := ownsRow_sortedI (n := n) (os := os) (ts := srt zs) (srt_len zs) hg hb h1 h2 h3
    refine ⟨rfl, ?_, grownBy_sortedI (n := n) (os := os) (srt zs).toArray⟩
    rw [srt_len]
    exact ho
namespace Gw
theorem dirs_lt (r c k : Int) : (dirs r c k).Pairwise (· < ·) := (List.pairwise_lt_range).filter _
/-- the cells next to a cell, sorted -/
theorem near_srt (r c k : Int) : srt ((dirs r c k).map (goC r c k)) = near r c k 8 := by
  have hnd : ((dirs r c k).map (goC r c k)).Pairwise (· ≠ ·) := by
    rw [List.pairwise_map]
    refine List.Pairwise.imp_of_mem (fun {a b} ha hb h e => ?_) (dirs_lt r c k)
    obtain ⟨a1, a2⟩ := mem_dirs.1 ha
    obtain ⟨b1, b2⟩ := mem_dirs.1 hb
    have := goC_inj a1 b1 a2 b2 e
    omega
  have hsn : (srt ((dirs r c k).map (goC r c k))).Pairwise (· ≠ ·) := (srt_perm _).symm.pairwise hnd (fun h => Ne.symm h)
  refine Ptq.up_ext ?_ (near_up r c k 8) (fun x => ?_)
  · exact ((srt_up _).and hsn).imp (fun h => by have h1 := h.1; have h2 := h.2; omega)
  · rw [(srt_perm _).mem_iff, near_mem, List.mem_map]
    constructor
    · rintro ⟨a, h1, h2⟩; obtain ⟨h3, h4⟩ := mem_dirs.1 h1; exact ⟨a, h3, h4, h2.symm⟩
    · rintro ⟨a, h1, h2, h3⟩; exact ⟨a, mem_dirs.2 ⟨h1, h2⟩, h3.symm⟩
theorem dirs_le8 (r c k : Int) : (dirs r c k).length ≤ 8 := by
  unfold dirs
  have := List.length_filter_le (goB r c k) (List.range 8)
  rwa [List.length_range] at this
end Gw
set_option maxHeartbeats 16000000 in
theorem neighAt_in (n : Nat) (hn : 8 ≤ n) (w : World) (R C k g0 cap Bo : Nat) (s : Int) (zs : List Int) (G : Gw.Good R C s zs) (hk : k < zs.length) (hown : Own Bo w (.slice (some ⟨g0, 0, none⟩) zs.length cap) zs) (hA : AspAt w) :
    CallsIn Fence.wide n Tryd.prog 23 #[.agg #[.int .i64 R, .int .i64 C, .int .i64 s, .slice (some ⟨g0, 0, none⟩) zs.length cap], .int .i64 (k : Int)] w (RIp w (Gw.near R C k 8) 0) := by
  obtain ⟨i0, hi, hz0, hz1, hz2⟩ := info_parts info_i64
  have hro : Fence.wide.round = none := rfl
  have r1 := G.r1; have r2 := G.r2; have c1 := G.c1; have c2 := G.c2
  have hlen := G.len
  have hL : Hid (zs.length = R * C) := Lib.hid (good_len G)
  have HB := Lib.hid (boxG_below w R C s (.slice (some ⟨g0, 0, none⟩) zs.length cap) 28)
  have B2 := Lib.hid (HB.out.alloc HB.out.size (.cells #[.int .i64 (k : Int)] 2))
  have K2 : Hid (GC ((boxG w R C s (.slice (some ⟨g0, 0, none⟩) zs.length cap) 28).alloc (.cells #[.int .i64 (k : Int)] 2)) w.heap.size R C s (.slice (some ⟨g0, 0, none⟩) zs.length cap)) := Lib.hid (boxG_kept ((Below.refl _ _).alloc (Nat.le_refl _) _))
  have O2 := Lib.hid (hown.belowAll B2.out)
  have S2 := Lib.hid (one_slT (boxG w R C s (.slice (some ⟨g0, 0, none⟩) zs.length cap) 28) (k : Int))
  have A2 := Lib.hid (hA.below B2.out)
  have CC := Lib.hid (cellsCode_any ((boxG w R C s (.slice (some ⟨g0, 0, none⟩) zs.length cap) 28).alloc (.cells #[.int .i64 (k : Int)] 2)) R C s (.slice (some ⟨g0, 0, none⟩) zs.length cap) _ zs [(k : Int)] O2.out.sl S2.out (by omega) (by simp))
  rw [boxG_size] at CC
  unfold boxG at CC K2 A2 O2 B2
  have hany : (!([(k : Int)].any fun x => !Ar.inB 0 x (zs.length - 1))) = true := by
    have : Ar.inB 0 (k : Int) (zs.length - 1) = true := Gw.inB_iff.2 (by omega)
    simp [this]
  rw [hany, (Gw.ok_iff _ _ _ _).2 G, Cd.cd_t] at CC
  have hcs := own_lt O2.out
  clear hany hown hA HB S2
  have CF := Lib.hid (fun W v u => stepsFrom_any W (R : Int) C s v u (k : Int) (by omega) (by omega) c1 c2)
  obtain ⟨W2, hW2⟩ : ∃ u, (w.alloc (.cells #[.int .i64 R, .int .i64 C, .int .i64 s, .slice (some ⟨g0, 0, none⟩) zs.length cap] 28)).alloc (.cells #[.int .i64 (k : Int)] 2) = u := ⟨_, rfl⟩
  rw [hW2] at CC K2 A2 O2 B2 hcs
  have CT := Lib.hid (fun W (h : Below W2.heap.size W2 W) => terrainOf_any W R C g0 0 zs.length cap s hL.out (by omega) (own_cap O2.out) (by omega) (by omega) (by omega) (by omega))
  refine callsIn_of_wp_marks Tryd.func23 rfl trivial ?_ hro
  simp only [Tryd.ntmps23, List.size_toArray, List.length_cons, List.length_nil, Nat.reduceAdd, Nat.reduceSub, Array.replicate_succ, Array.replicate_zero, List.push_toArray, List.append_toArray, List.nil_append, List.cons_append]
  gi_wp2_with fail
  refine ⟨trivial, fun _ => by omega, (callsIn_wide.2 CC.out).mono ?_⟩
  rintro e w1 ⟨rfl, b1⟩
  have N1 := Lib.hid b1
  clear b1 CC
  gi_wp2_with (gi_at_make; refine wpListIn_make_own _ rfl _ _ 22 rfl w1.heap.size 2 i0 (.int .i64 0) 1 Tryd.underlying22 hi hz0 hz1 .i64 .i64 _ 8 rfl rfl rfl ?c1 ?c2 ?c3 ?_)
  case c1 => rw [hz2]; omega
  case c2 => unfold maxLen; omega
  case c3 => exact Nat.le_refl _
  intro w3 hrow hg3
  have hlt3 : w1.heap.size < w3.heap.size := (World.ownsRow.lt hrow w1.heap.size rfl).2
  have N3 := Lib.hid (N1.out.grown hg3 N1.out.size (fun k e => by cases e))
  have N4 := Lib.hid (N3.out.alloc N3.out.size (.cells #[.slice (some ⟨w1.heap.size, 0, none⟩) 0 8] 22))
  have X4 : Hid (Boxed (w3.alloc (.cells #[.slice (some ⟨w1.heap.size, 0, none⟩) 0 8] 22)) w3.heap.size 22 (.slice (some ⟨w1.heap.size, 0, none⟩) 0 8)) := Lib.hid (Boxed.new w3 22 (.slice (some ⟨w1.heap.size, 0, none⟩) 0 8))
  have R4 := Lib.hid (hrow.alloc (.cells #[.slice (some ⟨w1.heap.size, 0, none⟩) 0 8] 22))
  obtain ⟨k0, k1, k2, k3⟩ := (K2.out.all N4.out).four
  have hkl := (K2.out.all N4.out).lt
  clear hrow hg3
  gi_wp2_with fail
  refine ⟨trivial, fun _ => by omega, (callsIn_wide.2 (CT.out _ N4.out)).mono ?_⟩
  rintro e w5 ⟨g, cap', rfl, hr, hg, b5⟩
  have N5 := Lib.hid (bt N4.out b5)
  clear k0 k1 k2 k3 hkl CT
  gi_wp2_with fail
  refine ⟨trivial, fun _ => by omega, (callsIn_wide.2 (CF.out _ _ _)).mono ?_⟩
  rintro e W0 ⟨q, rfl, te, fr, hq, b0⟩
  have N0 := Lib.hid (bt N5.out b0)
  have B0 := Lib.hid (bt B2.out N0.out)
  have XS := Lib.hid (boxed_belowB X4.out (bt b5 b0))
  have RS := Lib.hid (own_belowAll R4.out (bt b5 b0))
  have GS := Lib.hid (K2.out.all N0.out)
  have hr0 := hr.all b0
  have hsz1 : w3.heap.size + 1 ≤ g := by have := hg; simpa using this
  have hsz2 : w3.heap.size + 1 ≤ w5.heap.size := by have := b5.size; simpa using this
  have hg0 : g0 < w1.heap.size := Nat.lt_of_lt_of_le hcs N1.out.size
  have hA0 := A2.out.below N0.out
  have O0 := O2.out.belowAll N0.out
  have SK0 : SK W0.heap.size W0 R C k g0 0 zs.length cap g cap' q w5.heap.size s zs := ⟨te, fr, hr0, fun j x hx => own_cells O0 j x hx, own_lt O0, hr0.1, fr.lt, te.lt⟩
  have hwsz : w.heap.size + 2 ≤ w1.heap.size := by have h1 := N1.out.size; rw [← hW2] at h1; simp at h1; omega
  have hw0 : w3.heap.size < W0.heap.size := XS.out.lt
  have h1 : 1 ≤ n := by omega
  have GGG := Lib.hid G
  clear CF hr hg b5 b0 te fr hr0 O0 N0 N5 N4 N3 N1 K2 X4 R4 A2 O2 r1 r2 c1 c2 G
  gi_wp2_with fail
  refine wpIn_rangeFunc_ownH hro h1 (gf := 96) (lb := #[.pointer (some ⟨q, 0, none⟩), .pointer (some ⟨w5.heap.size, 0, none⟩)]) rfl trivial (enters_of Tryd.func96 (by kernel_rfl) rfl)
    (stepsp_stops (fun i => i = w1.heap.size ∨ i = w3.heap.size) (n - 1) (by omega) W0.heap.size R C k g0 0 zs.length cap g cap' q w5.heap.size s zs GGG.out hk ⟨by omega, by omega, by omega, by omega⟩ W0 SK0 hA0 (Nat.le_refl _)) BP.trans (fun W l o o' hl h e1 e2 => BP.of (belowK_b (w := W0) (Nat.le_refl _) W l o o' hl h e1 e2)) (Below.refl _ _) (fun _ => rfl)
    (fun pre W => NbJ w1.heap.size w3.heap.size W0.heap.size R C k (pre.map (fun x => x.1)) W ∧ BP W0.heap.size (fun i => i = w1.heap.size ∨ i = w3.heap.size) W0 W)
    (fun _ _ _ => False)
    (OwnFrom.and (Own.from (nbJ_own w1.heap.size w3.heap.size W0.heap.size R C k (fun pre : List (Gw.Dir R C k) => pre.map (fun x => x.1))) _) (ownFrom_bp (Nat.le_refl _) (Nat.le_refl _)))
    (fun _ _ _ _ _ hs _ _ => hs)
    ⟨⟨_, XS.out, RS.out, fun j e => Or.inl (by simpa [Value.ownBlock] using e.symm)⟩, BP.refl _ _ _⟩
    (fun x a' W => ∃ Bx, w3.heap.size < Bx ∧ Whole W Bx 74 (stC R C s zs k (some x.1)) ∧ a' = { tmps := #[Value.agg #[.int .i64 R, .int .i64 C, .int .i64 s, .slice (some ⟨g0, 0, none⟩) zs.length cap], .int .i64 (k : Int), .pointer (some ⟨w.heap.size, 0, none⟩), undef, .slice none 0 0, .int .i64 0, .int .i64 0, .pointer (some ⟨w3.heap.size, 0, none⟩), .pointer (some ⟨Bx, 0, none⟩), Value.agg #[.int .i64 R, .int .i64 C, .int .i64 s, .slice (some ⟨g0, 0, none⟩) zs.length cap], .int .i64 (k : Int), .slice (some ⟨w.heap.size + 1, 0, none⟩) 1 1, .int .i64 0, .int .i64 0, .bool false, undef, .slice (some ⟨w1.heap.size, 0, none⟩) 0 8, Value.agg #[.int .i64 R, .int .i64 C, .int .i64 s, .slice (some ⟨g0, 0, none⟩) zs.length cap], Value.agg #[.int .i64 R, .int .i64 C, .int .i64 s, .slice (some ⟨g0, 0, none⟩) zs.length cap, .slice (some ⟨g, 0, none⟩) R cap'], .int .i64 (k : Int), .func (.func 96) #[] #[.pointer (some ⟨q, 0, none⟩), .pointer (some ⟨w5.heap.size, 0, none⟩)], stepV R C s zs k x.1, undef, undef, undef, undef, undef, undef, undef, undef, undef, undef, undef], defers := [] })
    (fun x a' _ X Y row hs hg hr => by obtain ⟨Bx, h1, h2, h3⟩ := hs; exact ⟨Bx, h1, whole_own Bx _ (fun (_ : Unit) => stC R C s zs k (some x.1)) () X Y row h2 hg (fun r e => (hr r e).2), h3⟩)
    ?assign ?body ?done ?stop
  case assign =>
    rintro l pre x W K ⟨⟨v, hv, hrow, hgo⟩, hB1⟩ hK
    have hst : stepV R C s zs k x.1 = .agg (stC R C s zs k (some x.1)) := rfl
    obtain ⟨d0, p0, q0, hc⟩ := stC_five R C s zs k (some x.1)
    rw [hst] at hK ⊢
    rw [hc] at hK ⊢
    have hW := hB1.size
    generalize dnO R C zs k (some x.1) = d1 at *
    generalize Gw.slO R C s zs k (some x.1) = d2 at *
    clear hst hc
    gi_wp2_with fail
    exact hK _ _ ((KeepsOthers.alloc _ _).from _) (BP.of ((Below.refl _ W).alloc hW _)) ⟨⟨v, hv.alloc _, hrow.alloc _, hgo⟩, hB1.trans (BP.of ((Below.refl _ W).alloc hW _))⟩ ⟨W.heap.size, by omega, Whole.new W _ _, rfl⟩
  case body =>
    rintro l pre x a' W hl _ ⟨⟨v, hv, hrow, hgo0⟩, hB1⟩ ⟨Bx, hBx, bX, rfl⟩ hlt
    have hst : stepV R C s zs k x.1 = .agg #[.int .i64 (x.1 : Int), .int .i64 (Gw.rwA C k x.1), .int .i64 (Gw.clA C k x.1), .int .i64 (Gw.drp zs k (Gw.goC R C k x.1).toNat), .int .i64 (Gw.fall s zs k (Gw.goC R C k x.1).toNat x.1)] := rfl
    have hsc : stC R C s zs k (some x.1) = #[.int .i64 (x.1 : Int), .int .i64 (Gw.rwA C k x.1), .int .i64 (Gw.clA C k x.1), .int .i64 (Gw.drp zs k (Gw.goC R C k x.1).toNat), .int .i64 (Gw.fall s zs k (Gw.goC R C k x.1).toNat x.1)] := rfl
    obtain ⟨eg1, hw1, hw2⟩ := Gw.goC_wrap GGG.out x.2.2
    obtain ⟨z0, zl⟩ := Gw.goC_lt x.2.2 GGG.out.c1 GGG.out.n
    have hzn : Gw.rwA C k x.1 * C + Gw.clA C k x.1 = ((Gw.goC R C k x.1).toNat : Int) := by rw [← eg1]; exact (Int.toNat_of_nonneg z0).symm
    have CP := Lib.hid (fun W => placeCell_any (Gw.rwA C k x.1) (Gw.clA C k x.1) C W hw1 hw2)
    rw [hzn] at CP
    have HI : Hid (Gw.goC R C k x.1 = ((Gw.goC R C k x.1).toNat : Int)) := Lib.hid (Int.toNat_of_nonneg z0).symm
    have hmap : Hid ((pre ++ [x]).map (fun x => x.1) = pre.map (fun x => x.1) ++ [x.1]) := Lib.hid (by rw [List.map_append, List.map_cons, List.map_nil])
    have hml : ((pre.map (fun x => x.1)).map (Gw.goC R C k)).length ≤ 8 := by rw [List.length_map, List.length_map]; omega
    rw [hst]
    rw [hsc] at bX
    have HV := Lib.hid hv
    have HR := Lib.hid hrow
    have hgo := Lib.hid hgo0
    have hrW : Hid (w1.heap.size ≤ W.heap.size) := Lib.hid (by have := hB1.size; omega)
    have hrc : Hid (w1.heap.size ≤ w3.heap.size) := Lib.hid (by omega)
    have ELEN : Hid (W0.heap.size ≤ W.heap.size) := Lib.hid hB1.size
    have GW : Hid (W.cell? ⟨w.heap.size, 1, none⟩ = some (.int .i64 C)) := Lib.hid ((hB1.cell (p := ⟨w.heap.size, 1, none⟩) (by show w.heap.size < W0.heap.size; omega) (by show ¬ (w.heap.size = w1.heap.size ∨ w.heap.size = w3.heap.size); omega)).trans GS.out.four.2.1)
    have BD : Hid (Below W.heap.size W W.drew) := Lib.hid (below_drewW W 1)
    generalize (Gw.goC R C k x.1).toNat = N at *
    generalize Gw.rwA C k x.1 = y1 at *
    generalize Gw.clA C k x.1 = y2 at *
    generalize Gw.drp zs k N = y3 at *
    generalize Gw.fall s zs k N x.1 = y4 at *
    obtain ⟨d, hd⟩ : ∃ d : Int, (x.1 : Int) = d := ⟨_, rfl⟩
    rw [hd] at bX ⊢
    have x0 : W.drew.cell? ⟨w3.heap.size, 0, none⟩ = some v := hv.cell
    have x1 : W.drew.cell? ⟨Bx, 1, none⟩ = some (.int .i64 y1) := bX.at_ 1
    have x2 : W.drew.cell? ⟨Bx, 2, none⟩ = some (.int .i64 y2) := bX.at_ 2
    have x3 : W.drew.cell? ⟨w.heap.size, 1, none⟩ = some (.int .i64 C) := GW.out
    clear hst hsc eg1 hw1 hw2 hzn z0 hd hv hrow hgo0 bX GW
    gi_wp2_with fail
    refine region_round (by kernel_rfl) (by kernel_rfl) ?_
    refine wpAnyIn_take (i := 1) (oi := ({ dst := some 23, op := Op.fieldAddr 74 (Operand.tmp 8) 1, type := 0, pos := "l09_terrain.go:105", after := #[], guard := none } : Oper)) (v := ?_) rfl rfl (by kernel_rfl) (by kernel_rfl) (by kernel_rfl) (fun _ _ _ h => h) ⟨Or.inl ⟨by rfl, ?_⟩, fun _ => rfl⟩ ?_
    rotate_left
    · (intro w; go_simp <;> with_reducible rfl)
    try simp only [Act.put, List.setIfInBounds_toArray, List.set_cons_zero, List.set_cons_succ]
    refine wpAnyIn_take (i := 3) (oi := ({ dst := some 25, op := Op.fieldAddr 28 (Operand.tmp 2) 1, type := 0, pos := "l09_terrain.go:105", after := #[], guard := none } : Oper)) (v := ?_) rfl rfl (by kernel_rfl) (by kernel_rfl) (by kernel_rfl) (fun _ _ _ h => h) ⟨Or.inl ⟨by rfl, ?_⟩, fun _ => rfl⟩ ?_
    rotate_left
    · (intro w; go_simp <;> with_reducible rfl)
    try simp only [Act.put, List.setIfInBounds_toArray, List.set_cons_zero, List.set_cons_succ]
    refine wpAnyIn_ready (rs := [0, 2, 4]) (by kernel_rfl) (by simp) ?_
    refine AllReadyIn.cons (o := ({ dst := some 22, op := Op.load 22 (Operand.tmp 7), type := 22, pos := "l09_terrain.go:105", after := #[], guard := none } : Oper)) rfl (fun K hK => ?_) ?_
    · go_simp
      refine hK _ _ ?_
      clear hK K
      try simp only [Act.put, List.setIfInBounds_toArray, List.set_cons_zero, List.set_cons_succ]
      refine wpAnyIn_ready (rs := [2, 4]) (by kernel_rfl) (by simp) ?_
      refine AllReadyIn.cons (o := ({ dst := some 24, op := Op.load 72 (Operand.tmp 23), type := 72, pos := "l09_terrain.go:105", after := #[{ on := 1, ground := Ground.data }], guard := none } : Oper)) rfl (fun K hK => ?_) ?_
      · go_simp
        refine hK _ _ ?_
        clear hK K
        try simp only [Act.put, List.setIfInBounds_toArray, List.set_cons_zero, List.set_cons_succ]
        refine wpAnyIn_ready (rs := [4]) (by kernel_rfl) (by simp) ?_
        refine AllReadyIn.cons (o := ({ dst := some 26, op := Op.load 2 (Operand.tmp 25), type := 2, pos := "l09_terrain.go:105", after := #[{ on := 3, ground := Ground.data }], guard := none } : Oper)) rfl (fun K hK => ?_) ?_
        · go_simp
          refine hK _ _ ?_
          clear hK K
          try simp only [Act.put, List.setIfInBounds_toArray, List.set_cons_zero, List.set_cons_succ]
          refine wpAnyIn_ready (rs := [5]) (by kernel_rfl) (by simp) ?_
          refine AllReadyIn.cons (o := ({ dst := some 27, op := Op.call { callee := Callee.value (Operand.func 50), args := #[Operand.tmp 24, Operand.tmp 26], argTypes := #[72, 2] }, type := 2, pos := "l09_terrain.go:105", after := #[{ on := 2, ground := Ground.data }, { on := 4, ground := Ground.data }], guard := none } : Oper)) rfl (fun K hK => ?_) ?_
          · go_simp
            refine ⟨trivial, fun _ => by omega, (callsIn_wide.2 (CP.out _)).mono ?_⟩
            rintro e wA ⟨rfl, bA⟩
            have BA := Lib.hid (bt BD.out bA)
            clear bA
            have x0 := (boxed_belowB HV.out BA.out).cell; have hcbA := (boxed_belowB HV.out BA.out).lt
            refine hK _ _ ?_
            clear hK K
            try simp only [Act.put, List.setIfInBounds_toArray, List.set_cons_zero, List.set_cons_succ]
            refine wpAnyIn_ready (rs := [6]) (by kernel_rfl) (by simp) ?_
            refine AllReadyIn.cons (o := ({ dst := some 28, op := Op.buildSlice 22 1 #[(0, Operand.tmp 27)], type := 22, pos := "l09_terrain.go:105", after := #[{ on := 5, ground := Ground.data }], guard := none } : Oper)) rfl (fun K hK => ?_) ?_
            · go_simp
              refine hK _ _ ?_
              clear hK K
              try simp only [Act.put, List.setIfInBounds_toArray, List.set_cons_zero, List.set_cons_succ]
              refine wpAnyIn_ready (rs := [7]) (by kernel_rfl) (by simp) ?_
              refine AllReadyIn.cons (o := ({ dst := some 29, op := Op.call { callee := Callee.builtin Builtin.append, args := #[Operand.tmp 22, Operand.tmp 28], argTypes := #[22, 22] }, type := 22, pos := "l09_terrain.go:105", after := #[{ on := 0, ground := Ground.data }, { on := 6, ground := Ground.data }, { on := 5, ground := Ground.chain }], guard := none } : Oper)) rfl (fun K hK => ?_) ?_
              · refine stepIn_append_own_at rfl _ _ 22 rfl w1.heap.size 2 i0 (.int .i64 0) 1 8 Tryd.underlying22 hi hz0 hz1 hz2 rfl (by decide) _ _ _ rfl ((own_belowAll HR.out BA.out).alloc _) ⟨wA.heap.size, 0, none⟩ 1 1 [.int .i64 (N : Int)] rfl rfl (row_new _ [_] _) (iv_cell [(N : Int)]) (by unfold maxLen; omega) (by omega) (by have h1 := BA.out.size; have h2 := hrW.out; simp; omega) ?_
                intro v' w7 hown' hgrow hat
                obtain ⟨g7, cap7, rfl⟩ := ownsRow_succ hown'
                obtain ⟨hv1, hv2, hr2, hk2, hb2⟩ := (boxed_belowB HV.out BA.out).appended (by decide) (own_belowAll HR.out BA.out) (Nat.le_trans hrW.out BA.out.size) hrc.out hown' hgrow
                have hc1 := hv1.cell; have hf1 := hv1.frozen
                refine hK _ _ ?_
                clear hK K
                try simp only [Act.put, List.setIfInBounds_toArray, List.set_cons_zero, List.set_cons_succ]
                refine wpAnyIn_ready (rs := [8]) (by kernel_rfl) (by simp) ?_
                refine AllReadyIn.cons (o := ({ dst := none, op := Op.store 22 (Operand.tmp 7) (Operand.tmp 29), type := 0, pos := "l09_terrain.go:105", after := #[{ on := 7, ground := Ground.data }, { on := 7, ground := Ground.chain }, { on := 0, ground := Ground.phase }, { on := 1, ground := Ground.phase }, { on := 2, ground := Ground.phase }, { on := 3, ground := Ground.phase }, { on := 4, ground := Ground.phase }, { on := 5, ground := Ground.phase }, { on := 6, ground := Ground.phase }, { on := 7, ground := Ground.phase }], guard := none } : Oper)) rfl (fun K hK => ?_) ?_
                · go_simp
                  refine hK _ _ ?_
                  clear hK K
                  try simp only [Act.put, List.setIfInBounds_toArray, List.set_cons_zero, List.set_cons_succ]
                  refine wpAnyIn_done (by kernel_rfl) ?_ _
                  gi_wp2_with fail
                  have NE := nb_end (B := W0.heap.size) (P := fun i => i = w1.heap.size ∨ i = w3.heap.size) HI.out hB1 BA.out hgrow hat hgo.out (Or.inl rfl) (Or.inr rfl) hk2 hv2 hr2 ELEN.out
                  rw [← hmap.out] at NE
                  simp only [List.length_map] at NE
                  exact NE
                exact AllReadyIn.nil
              exact AllReadyIn.nil
            exact AllReadyIn.nil
          exact AllReadyIn.nil
        exact AllReadyIn.nil
      refine AllReadyIn.cons (o := ({ dst := some 26, op := Op.load 2 (Operand.tmp 25), type := 2, pos := "l09_terrain.go:105", after := #[{ on := 3, ground := Ground.data }], guard := none } : Oper)) rfl (fun K hK => ?_) ?_
      · go_simp
        refine hK _ _ ?_
        clear hK K
        try simp only [Act.put, List.setIfInBounds_toArray, List.set_cons_zero, List.set_cons_succ]
        refine wpAnyIn_ready (rs := [2]) (by kernel_rfl) (by simp) ?_
        refine AllReadyIn.cons (o := ({ dst := some 24, op := Op.load 72 (Operand.tmp 23), type := 72, pos := "l09_terrain.go:105", after := #[{ on := 1, ground := Ground.data }], guard := none } : Oper)) rfl (fun K hK => ?_) ?_
        · go_simp
          refine hK _ _ ?_
          clear hK K
          try simp only [Act.put, List.setIfInBounds_toArray, List.set_cons_zero, List.set_cons_succ]
          refine wpAnyIn_ready (rs := [5]) (by kernel_rfl) (by simp) ?_
          refine AllReadyIn.cons (o := ({ dst := some 27, op := Op.call { callee := Callee.value (Operand.func 50), args := #[Operand.tmp 24, Operand.tmp 26], argTypes := #[72, 2] }, type := 2, pos := "l09_terrain.go:105", after := #[{ on := 2, ground := Ground.data }, { on := 4, ground := Ground.data }], guard := none } : Oper)) rfl (fun K hK => ?_) ?_
          · go_simp
            refine ⟨trivial, fun _ => by omega, (callsIn_wide.2 (CP.out _)).mono ?_⟩
            rintro e wA ⟨rfl, bA⟩
            have BA := Lib.hid (bt BD.out bA)
            clear bA
            have x0 := (boxed_belowB HV.out BA.out).cell; have hcbA := (boxed_belowB HV.out BA.out).lt
            refine hK _ _ ?_
            clear hK K
            try simp only [Act.put, List.setIfInBounds_toArray, List.set_cons_zero, List.set_cons_succ]
            refine wpAnyIn_ready (rs := [6]) (by kernel_rfl) (by simp) ?_
            refine AllReadyIn.cons (o := ({ dst := some 28, op := Op.buildSlice 22 1 #[(0, Operand.tmp 27)], type := 22, pos := "l09_terrain.go:105", after := #[{ on := 5, ground := Ground.data }], guard := none } : Oper)) rfl (fun K hK => ?_) ?_
            · go_simp
              refine hK _ _ ?_
              clear hK K
              try simp only [Act.put, List.setIfInBounds_toArray, List.set_cons_zero, List.set_cons_succ]
              refine wpAnyIn_ready (rs := [7]) (by kernel_rfl) (by simp) ?_
              refine AllReadyIn.cons (o := ({ dst := some 29, op := Op.call { callee := Callee.builtin Builtin.append, args := #[Operand.tmp 22, Operand.tmp 28], argTypes := #[22, 22] }, type := 22, pos := "l09_terrain.go:105", after := #[{ on := 0, ground := Ground.data }, { on := 6, ground := Ground.data }, { on := 5, ground := Ground.chain }], guard := none } : Oper)) rfl (fun K hK => ?_) ?_
              · refine stepIn_append_own_at rfl _ _ 22 rfl w1.heap.size 2 i0 (.int .i64 0) 1 8 Tryd.underlying22 hi hz0 hz1 hz2 rfl (by decide) _ _ _ rfl ((own_belowAll HR.out BA.out).alloc _) ⟨wA.heap.size, 0, none⟩ 1 1 [.int .i64 (N : Int)] rfl rfl (row_new _ [_] _) (iv_cell [(N : Int)]) (by unfold maxLen; omega) (by omega) (by have h1 := BA.out.size; have h2 := hrW.out; simp; omega) ?_
                intro v' w7 hown' hgrow hat
                obtain ⟨g7, cap7, rfl⟩ := ownsRow_succ hown'
                obtain ⟨hv1, hv2, hr2, hk2, hb2⟩ := (boxed_belowB HV.out BA.out).appended (by decide) (own_belowAll HR.out BA.out) (Nat.le_trans hrW.out BA.out.size) hrc.out hown' hgrow
                have hc1 := hv1.cell; have hf1 := hv1.frozen
                refine hK _ _ ?_
                clear hK K
                try simp only [Act.put, List.setIfInBounds_toArray, List.set_cons_zero, List.set_cons_succ]
                refine wpAnyIn_ready (rs := [8]) (by kernel_rfl) (by simp) ?_
                refine AllReadyIn.cons (o := ({ dst := none, op := Op.store 22 (Operand.tmp 7) (Operand.tmp 29), type := 0, pos := "l09_terrain.go:105", after := #[{ on := 7, ground := Ground.data }, { on := 7, ground := Ground.chain }, { on := 0, ground := Ground.phase }, { on := 1, ground := Ground.phase }, { on := 2, ground := Ground.phase }, { on := 3, ground := Ground.phase }, { on := 4, ground := Ground.phase }, { on := 5, ground := Ground.phase }, { on := 6, ground := Ground.phase }, { on := 7, ground := Ground.phase }], guard := none } : Oper)) rfl (fun K hK => ?_) ?_
                · go_simp
                  refine hK _ _ ?_
                  clear hK K
                  try simp only [Act.put, List.setIfInBounds_toArray, List.set_cons_zero, List.set_cons_succ]
                  refine wpAnyIn_done (by kernel_rfl) ?_ _
                  gi_wp2_with fail
                  have NE := nb_end (B := W0.heap.size) (P := fun i => i = w1.heap.size ∨ i = w3.heap.size) HI.out hB1 BA.out hgrow hat hgo.out (Or.inl rfl) (Or.inr rfl) hk2 hv2 hr2 ELEN.out
                  rw [← hmap.out] at NE
                  simp only [List.length_map] at NE
                  exact NE
                exact AllReadyIn.nil
              exact AllReadyIn.nil
            exact AllReadyIn.nil
          exact AllReadyIn.nil
        exact AllReadyIn.nil
      exact AllReadyIn.nil
    refine AllReadyIn.cons (o := ({ dst := some 24, op := Op.load 72 (Operand.tmp 23), type := 72, pos := "l09_terrain.go:105", after := #[{ on := 1, ground := Ground.data }], guard := none } : Oper)) rfl (fun K hK => ?_) ?_
    · go_simp
      refine hK _ _ ?_
      clear hK K
      try simp only [Act.put, List.setIfInBounds_toArray, List.set_cons_zero, List.set_cons_succ]
      refine wpAnyIn_ready (rs := [0, 4]) (by kernel_rfl) (by simp) ?_
      refine AllReadyIn.cons (o := ({ dst := some 22, op := Op.load 22 (Operand.tmp 7), type := 22, pos := "l09_terrain.go:105", after := #[], guard := none } : Oper)) rfl (fun K hK => ?_) ?_
      · go_simp
        refine hK _ _ ?_
        clear hK K
        try simp only [Act.put, List.setIfInBounds_toArray, List.set_cons_zero, List.set_cons_succ]
        refine wpAnyIn_ready (rs := [4]) (by kernel_rfl) (by simp) ?_
        refine AllReadyIn.cons (o := ({ dst := some 26, op := Op.load 2 (Operand.tmp 25), type := 2, pos := "l09_terrain.go:105", after := #[{ on := 3, ground := Ground.data }], guard := none } : Oper)) rfl (fun K hK => ?_) ?_
        · go_simp
          refine hK _ _ ?_
          clear hK K
          try simp only [Act.put, List.setIfInBounds_toArray, List.set_cons_zero, List.set_cons_succ]
          refine wpAnyIn_ready (rs := [5]) (by kernel_rfl) (by simp) ?_
          refine AllReadyIn.cons (o := ({ dst := some 27, op := Op.call { callee := Callee.value (Operand.func 50), args := #[Operand.tmp 24, Operand.tmp 26], argTypes := #[72, 2] }, type := 2, pos := "l09_terrain.go:105", after := #[{ on := 2, ground := Ground.data }, { on := 4, ground := Ground.data }], guard := none } : Oper)) rfl (fun K hK => ?_) ?_
          · go_simp
            refine ⟨trivial, fun _ => by omega, (callsIn_wide.2 (CP.out _)).mono ?_⟩
            rintro e wA ⟨rfl, bA⟩
            have BA := Lib.hid (bt BD.out bA)
            clear bA
            have x0 := (boxed_belowB HV.out BA.out).cell; have hcbA := (boxed_belowB HV.out BA.out).lt
            refine hK _ _ ?_
            clear hK K
            try simp only [Act.put, List.setIfInBounds_toArray, List.set_cons_zero, List.set_cons_succ]
            refine wpAnyIn_ready (rs := [6]) (by kernel_rfl) (by simp) ?_
            refine AllReadyIn.cons (o := ({ dst := some 28, op := Op.buildSlice 22 1 #[(0, Operand.tmp 27)], type := 22, pos := "l09_terrain.go:105", after := #[{ on := 5, ground := Ground.data }], guard := none } : Oper)) rfl (fun K hK => ?_) ?_
            · go_simp
              refine hK _ _ ?_
              clear hK K
              try simp only [Act.put, List.setIfInBounds_toArray, List.set_cons_zero, List.set_cons_succ]
              refine wpAnyIn_ready (rs := [7]) (by kernel_rfl) (by simp) ?_
              refine AllReadyIn.cons (o := ({ dst := some 29, op := Op.call { callee := Callee.builtin Builtin.append, args := #[Operand.tmp 22, Operand.tmp 28], argTypes := #[22, 22] }, type := 22, pos := "l09_terrain.go:105", after := #[{ on := 0, ground := Ground.data }, { on := 6, ground := Ground.data }, { on := 5, ground := Ground.chain }], guard := none } : Oper)) rfl (fun K hK => ?_) ?_
              · refine stepIn_append_own_at rfl _ _ 22 rfl w1.heap.size 2 i0 (.int .i64 0) 1 8 Tryd.underlying22 hi hz0 hz1 hz2 rfl (by decide) _ _ _ rfl ((own_belowAll HR.out BA.out).alloc _) ⟨wA.heap.size, 0, none⟩ 1 1 [.int .i64 (N : Int)] rfl rfl (row_new _ [_] _) (iv_cell [(N : Int)]) (by unfold maxLen; omega) (by omega) (by have h1 := BA.out.size; have h2 := hrW.out; simp; omega) ?_
                intro v' w7 hown' hgrow hat
                obtain ⟨g7, cap7, rfl⟩ := ownsRow_succ hown'
                obtain ⟨hv1, hv2, hr2, hk2, hb2⟩ := (boxed_belowB HV.out BA.out).appended (by decide) (own_belowAll HR.out BA.out) (Nat.le_trans hrW.out BA.out.size) hrc.out hown' hgrow
                have hc1 := hv1.cell; have hf1 := hv1.frozen
                refine hK _ _ ?_
                clear hK K
                try simp only [Act.put, List.setIfInBounds_toArray, List.set_cons_zero, List.set_cons_succ]
                refine wpAnyIn_ready (rs := [8]) (by kernel_rfl) (by simp) ?_
                refine AllReadyIn.cons (o := ({ dst := none, op := Op.store 22 (Operand.tmp 7) (Operand.tmp 29), type := 0, pos := "l09_terrain.go:105", after := #[{ on := 7, ground := Ground.data }, { on := 7, ground := Ground.chain }, { on := 0, ground := Ground.phase }, { on := 1, ground := Ground.phase }, { on := 2, ground := Ground.phase }, { on := 3, ground := Ground.phase }, { on := 4, ground := Ground.phase }, { on := 5, ground := Ground.phase }, { on := 6, ground := Ground.phase }, { on := 7, ground := Ground.phase }], guard := none } : Oper)) rfl (fun K hK => ?_) ?_
                · go_simp
                  refine hK _ _ ?_
                  clear hK K
                  try simp only [Act.put, List.setIfInBounds_toArray, List.set_cons_zero, List.set_cons_succ]
                  refine wpAnyIn_done (by kernel_rfl) ?_ _
                  gi_wp2_with fail
                  have NE := nb_end (B := W0.heap.size) (P := fun i => i = w1.heap.size ∨ i = w3.heap.size) HI.out hB1 BA.out hgrow hat hgo.out (Or.inl rfl) (Or.inr rfl) hk2 hv2 hr2 ELEN.out
                  rw [← hmap.out] at NE
                  simp only [List.length_map] at NE
                  exact NE
                exact AllReadyIn.nil
              exact AllReadyIn.nil
            exact AllReadyIn.nil
          exact AllReadyIn.nil
        exact AllReadyIn.nil
      refine AllReadyIn.cons (o := ({ dst := some 26, op := Op.load 2 (Operand.tmp 25), type := 2, pos := "l09_terrain.go:105", after := #[{ on := 3, ground := Ground.data }], guard := none } : Oper)) rfl (fun K hK => ?_) ?_
      · go_simp
        refine hK _ _ ?_
        clear hK K
        try simp only [Act.put, List.setIfInBounds_toArray, List.set_cons_zero, List.set_cons_succ]
        refine wpAnyIn_ready (rs := [0, 5]) (by kernel_rfl) (by simp) ?_
        refine AllReadyIn.cons (o := ({ dst := some 22, op := Op.load 22 (Operand.tmp 7), type := 22, pos := "l09_terrain.go:105", after := #[], guard := none } : Oper)) rfl (fun K hK => ?_) ?_
        · go_simp
          refine hK _ _ ?_
          clear hK K
          try simp only [Act.put, List.setIfInBounds_toArray, List.set_cons_zero, List.set_cons_succ]
          refine wpAnyIn_ready (rs := [5]) (by kernel_rfl) (by simp) ?_
          refine AllReadyIn.cons (o := ({ dst := some 27, op := Op.call { callee := Callee.value (Operand.func 50), args := #[Operand.tmp 24, Operand.tmp 26], argTypes := #[72, 2] }, type := 2, pos := "l09_terrain.go:105", after := #[{ on := 2, ground := Ground.data }, { on := 4, ground := Ground.data }], guard := none } : Oper)) rfl (fun K hK => ?_) ?_
          · go_simp
            refine ⟨trivial, fun _ => by omega, (callsIn_wide.2 (CP.out _)).mono ?_⟩
            rintro e wA ⟨rfl, bA⟩
            have BA := Lib.hid (bt BD.out bA)
            clear bA
            have x0 := (boxed_belowB HV.out BA.out).cell; have hcbA := (boxed_belowB HV.out BA.out).lt
            refine hK _ _ ?_
            clear hK K
            try simp only [Act.put, List.setIfInBounds_toArray, List.set_cons_zero, List.set_cons_succ]
            refine wpAnyIn_ready (rs := [6]) (by kernel_rfl) (by simp) ?_
            refine AllReadyIn.cons (o := ({ dst := some 28, op := Op.buildSlice 22 1 #[(0, Operand.tmp 27)], type := 22, pos := "l09_terrain.go:105", after := #[{ on := 5, ground := Ground.data }], guard := none } : Oper)) rfl (fun K hK => ?_) ?_
            · go_simp
              refine hK _ _ ?_
              clear hK K
              try simp only [Act.put, List.setIfInBounds_toArray, List.set_cons_zero, List.set_cons_succ]
              refine wpAnyIn_ready (rs := [7]) (by kernel_rfl) (by simp) ?_
              refine AllReadyIn.cons (o := ({ dst := some 29, op := Op.call { callee := Callee.builtin Builtin.append, args := #[Operand.tmp 22, Operand.tmp 28], argTypes := #[22, 22] }, type := 22, pos := "l09_terrain.go:105", after := #[{ on := 0, ground := Ground.data }, { on := 6, ground := Ground.data }, { on := 5, ground := Ground.chain }], guard := none } : Oper)) rfl (fun K hK => ?_) ?_
              · refine stepIn_append_own_at rfl _ _ 22 rfl w1.heap.size 2 i0 (.int .i64 0) 1 8 Tryd.underlying22 hi hz0 hz1 hz2 rfl (by decide) _ _ _ rfl ((own_belowAll HR.out BA.out).alloc _) ⟨wA.heap.size, 0, none⟩ 1 1 [.int .i64 (N : Int)] rfl rfl (row_new _ [_] _) (iv_cell [(N : Int)]) (by unfold maxLen; omega) (by omega) (by have h1 := BA.out.size; have h2 := hrW.out; simp; omega) ?_
                intro v' w7 hown' hgrow hat
                obtain ⟨g7, cap7, rfl⟩ := ownsRow_succ hown'
                obtain ⟨hv1, hv2, hr2, hk2, hb2⟩ := (boxed_belowB HV.out BA.out).appended (by decide) (own_belowAll HR.out BA.out) (Nat.le_trans hrW.out BA.out.size) hrc.out hown' hgrow
                have hc1 := hv1.cell; have hf1 := hv1.frozen
                refine hK _ _ ?_
                clear hK K
                try simp only [Act.put, List.setIfInBounds_toArray, List.set_cons_zero, List.set_cons_succ]
                refine wpAnyIn_ready (rs := [8]) (by kernel_rfl) (by simp) ?_
                refine AllReadyIn.cons (o := ({ dst := none, op := Op.store 22 (Operand.tmp 7) (Operand.tmp 29), type := 0, pos := "l09_terrain.go:105", after := #[{ on := 7, ground := Ground.data }, { on := 7, ground := Ground.chain }, { on := 0, ground := Ground.phase }, { on := 1, ground := Ground.phase }, { on := 2, ground := Ground.phase }, { on := 3, ground := Ground.phase }, { on := 4, ground := Ground.phase }, { on := 5, ground := Ground.phase }, { on := 6, ground := Ground.phase }, { on := 7, ground := Ground.phase }], guard := none } : Oper)) rfl (fun K hK => ?_) ?_
                · go_simp
                  refine hK _ _ ?_
                  clear hK K
                  try simp only [Act.put, List.setIfInBounds_toArray, List.set_cons_zero, List.set_cons_succ]
                  refine wpAnyIn_done (by kernel_rfl) ?_ _
                  gi_wp2_with fail
                  have NE := nb_end (B := W0.heap.size) (P := fun i => i = w1.heap.size ∨ i = w3.heap.size) HI.out hB1 BA.out hgrow hat hgo.out (Or.inl rfl) (Or.inr rfl) hk2 hv2 hr2 ELEN.out
                  rw [← hmap.out] at NE
                  simp only [List.length_map] at NE
                  exact NE
                exact AllReadyIn.nil
              exact AllReadyIn.nil
            exact AllReadyIn.nil
          exact AllReadyIn.nil
        refine AllReadyIn.cons (o := ({ dst := some 27, op := Op.call { callee := Callee.value (Operand.func 50), args := #[Operand.tmp 24, Operand.tmp 26], argTypes := #[72, 2] }, type := 2, pos := "l09_terrain.go:105", after := #[{ on := 2, ground := Ground.data }, { on := 4, ground := Ground.data }], guard := none } : Oper)) rfl (fun K hK => ?_) ?_
        · go_simp
          refine ⟨trivial, fun _ => by omega, (callsIn_wide.2 (CP.out _)).mono ?_⟩
          rintro e wA ⟨rfl, bA⟩
          have BA := Lib.hid (bt BD.out bA)
          clear bA
          have x0 := (boxed_belowB HV.out BA.out).cell; have hcbA := (boxed_belowB HV.out BA.out).lt
          refine hK _ _ ?_
          clear hK K
          try simp only [Act.put, List.setIfInBounds_toArray, List.set_cons_zero, List.set_cons_succ]
          refine wpAnyIn_ready (rs := [0, 6]) (by kernel_rfl) (by simp) ?_
          refine AllReadyIn.cons (o := ({ dst := some 22, op := Op.load 22 (Operand.tmp 7), type := 22, pos := "l09_terrain.go:105", after := #[], guard := none } : Oper)) rfl (fun K hK => ?_) ?_
          · go_simp
            refine hK _ _ ?_
            clear hK K
            try simp only [Act.put, List.setIfInBounds_toArray, List.set_cons_zero, List.set_cons_succ]
            refine wpAnyIn_ready (rs := [6]) (by kernel_rfl) (by simp) ?_
            refine AllReadyIn.cons (o := ({ dst := some 28, op := Op.buildSlice 22 1 #[(0, Operand.tmp 27)], type := 22, pos := "l09_terrain.go:105", after := #[{ on := 5, ground := Ground.data }], guard := none } : Oper)) rfl (fun K hK => ?_) ?_
            · go_simp
              refine hK _ _ ?_
              clear hK K
              try simp only [Act.put, List.setIfInBounds_toArray, List.set_cons_zero, List.set_cons_succ]
              refine wpAnyIn_ready (rs := [7]) (by kernel_rfl) (by simp) ?_
              refine AllReadyIn.cons (o := ({ dst := some 29, op := Op.call { callee := Callee.builtin Builtin.append, args := #[Operand.tmp 22, Operand.tmp 28], argTypes := #[22, 22] }, type := 22, pos := "l09_terrain.go:105", after := #[{ on := 0, ground := Ground.data }, { on := 6, ground := Ground.data }, { on := 5, ground := Ground.chain }], guard := none } : Oper)) rfl (fun K hK => ?_) ?_
              · refine stepIn_append_own_at rfl _ _ 22 rfl w1.heap.size 2 i0 (.int .i64 0) 1 8 Tryd.underlying22 hi hz0 hz1 hz2 rfl (by decide) _ _ _ rfl ((own_belowAll HR.out BA.out).alloc _) ⟨wA.heap.size, 0, none⟩ 1 1 [.int .i64 (N : Int)] rfl rfl (row_new _ [_] _) (iv_cell [(N : Int)]) (by unfold maxLen; omega) (by omega) (by have h1 := BA.out.size; have h2 := hrW.out; simp; omega) ?_
                intro v' w7 hown' hgrow hat
                obtain ⟨g7, cap7, rfl⟩ := ownsRow_succ hown'
                obtain ⟨hv1, hv2, hr2, hk2, hb2⟩ := (boxed_belowB HV.out BA.out).appended (by decide) (own_belowAll HR.out BA.out) (Nat.le_trans hrW.out BA.out.size) hrc.out hown' hgrow
                have hc1 := hv1.cell; have hf1 := hv1.frozen
                refine hK _ _ ?_
                clear hK K
                try simp only [Act.put, List.setIfInBounds_toArray, List.set_cons_zero, List.set_cons_succ]
                refine wpAnyIn_ready (rs := [8]) (by kernel_rfl) (by simp) ?_
                refine AllReadyIn.cons (o := ({ dst := none, op := Op.store 22 (Operand.tmp 7) (Operand.tmp 29), type := 0, pos := "l09_terrain.go:105", after := #[{ on := 7, ground := Ground.data }, { on := 7, ground := Ground.chain }, { on := 0, ground := Ground.phase }, { on := 1, ground := Ground.phase }, { on := 2, ground := Ground.phase }, { on := 3, ground := Ground.phase }, { on := 4, ground := Ground.phase }, { on := 5, ground := Ground.phase }, { on := 6, ground := Ground.phase }, { on := 7, ground := Ground.phase }], guard := none } : Oper)) rfl (fun K hK => ?_) ?_
                · go_simp
                  refine hK _ _ ?_
                  clear hK K
                  try simp only [Act.put, List.setIfInBounds_toArray, List.set_cons_zero, List.set_cons_succ]
                  refine wpAnyIn_done (by kernel_rfl) ?_ _
                  gi_wp2_with fail
                  have NE := nb_end (B := W0.heap.size) (P := fun i => i = w1.heap.size ∨ i = w3.heap.size) HI.out hB1 BA.out hgrow hat hgo.out (Or.inl rfl) (Or.inr rfl) hk2 hv2 hr2 ELEN.out
                  rw [← hmap.out] at NE
                  simp only [List.length_map] at NE
                  exact NE
                exact AllReadyIn.nil
              exact AllReadyIn.nil
            exact AllReadyIn.nil
          refine AllReadyIn.cons (o := ({ dst := some 28, op := Op.buildSlice 22 1 #[(0, Operand.tmp 27)], type := 22, pos := "l09_terrain.go:105", after := #[{ on := 5, ground := Ground.data }], guard := none } : Oper)) rfl (fun K hK => ?_) ?_
          · go_simp
            refine hK _ _ ?_
            clear hK K
            try simp only [Act.put, List.setIfInBounds_toArray, List.set_cons_zero, List.set_cons_succ]
            refine wpAnyIn_ready (rs := [0]) (by kernel_rfl) (by simp) ?_
            refine AllReadyIn.cons (o := ({ dst := some 22, op := Op.load 22 (Operand.tmp 7), type := 22, pos := "l09_terrain.go:105", after := #[], guard := none } : Oper)) rfl (fun K hK => ?_) ?_
            · go_simp
              refine hK _ _ ?_
              clear hK K
              try simp only [Act.put, List.setIfInBounds_toArray, List.set_cons_zero, List.set_cons_succ]
              refine wpAnyIn_ready (rs := [7]) (by kernel_rfl) (by simp) ?_
              refine AllReadyIn.cons (o := ({ dst := some 29, op := Op.call { callee := Callee.builtin Builtin.append, args := #[Operand.tmp 22, Operand.tmp 28], argTypes := #[22, 22] }, type := 22, pos := "l09_terrain.go:105", after := #[{ on := 0, ground := Ground.data }, { on := 6, ground := Ground.data }, { on := 5, ground := Ground.chain }], guard := none } : Oper)) rfl (fun K hK => ?_) ?_
              · refine stepIn_append_own_at rfl _ _ 22 rfl w1.heap.size 2 i0 (.int .i64 0) 1 8 Tryd.underlying22 hi hz0 hz1 hz2 rfl (by decide) _ _ _ rfl ((own_belowAll HR.out BA.out).alloc _) ⟨wA.heap.size, 0, none⟩ 1 1 [.int .i64 (N : Int)] rfl rfl (row_new _ [_] _) (iv_cell [(N : Int)]) (by unfold maxLen; omega) (by omega) (by have h1 := BA.out.size; have h2 := hrW.out; simp; omega) ?_
                intro v' w7 hown' hgrow hat
                obtain ⟨g7, cap7, rfl⟩ := ownsRow_succ hown'
                obtain ⟨hv1, hv2, hr2, hk2, hb2⟩ := (boxed_belowB HV.out BA.out).appended (by decide) (own_belowAll HR.out BA.out) (Nat.le_trans hrW.out BA.out.size) hrc.out hown' hgrow
                have hc1 := hv1.cell; have hf1 := hv1.frozen
                refine hK _ _ ?_
                clear hK K
                try simp only [Act.put, List.setIfInBounds_toArray, List.set_cons_zero, List.set_cons_succ]
                refine wpAnyIn_ready (rs := [8]) (by kernel_rfl) (by simp) ?_
                refine AllReadyIn.cons (o := ({ dst := none, op := Op.store 22 (Operand.tmp 7) (Operand.tmp 29), type := 0, pos := "l09_terrain.go:105", after := #[{ on := 7, ground := Ground.data }, { on := 7, ground := Ground.chain }, { on := 0, ground := Ground.phase }, { on := 1, ground := Ground.phase }, { on := 2, ground := Ground.phase }, { on := 3, ground := Ground.phase }, { on := 4, ground := Ground.phase }, { on := 5, ground := Ground.phase }, { on := 6, ground := Ground.phase }, { on := 7, ground := Ground.phase }], guard := none } : Oper)) rfl (fun K hK => ?_) ?_
                · go_simp
                  refine hK _ _ ?_
                  clear hK K
                  try simp only [Act.put, List.setIfInBounds_toArray, List.set_cons_zero, List.set_cons_succ]
                  refine wpAnyIn_done (by kernel_rfl) ?_ _
                  gi_wp2_with fail
                  have NE := nb_end (B := W0.heap.size) (P := fun i => i = w1.heap.size ∨ i = w3.heap.size) HI.out hB1 BA.out hgrow hat hgo.out (Or.inl rfl) (Or.inr rfl) hk2 hv2 hr2 ELEN.out
                  rw [← hmap.out] at NE
                  simp only [List.length_map] at NE
                  exact NE
                exact AllReadyIn.nil
              exact AllReadyIn.nil
            exact AllReadyIn.nil
          exact AllReadyIn.nil
        exact AllReadyIn.nil
      exact AllReadyIn.nil
    refine AllReadyIn.cons (o := ({ dst := some 26, op := Op.load 2 (Operand.tmp 25), type := 2, pos := "l09_terrain.go:105", after := #[{ on := 3, ground := Ground.data }], guard := none } : Oper)) rfl (fun K hK => ?_) ?_
    · go_simp
      refine hK _ _ ?_
      clear hK K
      try simp only [Act.put, List.setIfInBounds_toArray, List.set_cons_zero, List.set_cons_succ]
      refine wpAnyIn_ready (rs := [0, 2]) (by kernel_rfl) (by simp) ?_
      refine AllReadyIn.cons (o := ({ dst := some 22, op := Op.load 22 (Operand.tmp 7), type := 22, pos := "l09_terrain.go:105", after := #[], guard := none } : Oper)) rfl (fun K hK => ?_) ?_
      · go_simp
        refine hK _ _ ?_
        clear hK K
        try simp only [Act.put, List.setIfInBounds_toArray, List.set_cons_zero, List.set_cons_succ]
        refine wpAnyIn_ready (rs := [2]) (by kernel_rfl) (by simp) ?_
        refine AllReadyIn.cons (o := ({ dst := some 24, op := Op.load 72 (Operand.tmp 23), type := 72, pos := "l09_terrain.go:105", after := #[{ on := 1, ground := Ground.data }], guard := none } : Oper)) rfl (fun K hK => ?_) ?_
        · go_simp
          refine hK _ _ ?_
          clear hK K
          try simp only [Act.put, List.setIfInBounds_toArray, List.set_cons_zero, List.set_cons_succ]
          refine wpAnyIn_ready (rs := [5]) (by kernel_rfl) (by simp) ?_
          refine AllReadyIn.cons (o := ({ dst := some 27, op := Op.call { callee := Callee.value (Operand.func 50), args := #[Operand.tmp 24, Operand.tmp 26], argTypes := #[72, 2] }, type := 2, pos := "l09_terrain.go:105", after := #[{ on := 2, ground := Ground.data }, { on := 4, ground := Ground.data }], guard := none } : Oper)) rfl (fun K hK => ?_) ?_
          · go_simp
            refine ⟨trivial, fun _ => by omega, (callsIn_wide.2 (CP.out _)).mono ?_⟩
            rintro e wA ⟨rfl, bA⟩
            have BA := Lib.hid (bt BD.out bA)
            clear bA
            have x0 := (boxed_belowB HV.out BA.out).cell; have hcbA := (boxed_belowB HV.out BA.out).lt
            refine hK _ _ ?_
            clear hK K
            try simp only [Act.put, List.setIfInBounds_toArray, List.set_cons_zero, List.set_cons_succ]
            refine wpAnyIn_ready (rs := [6]) (by kernel_rfl) (by simp) ?_
            refine AllReadyIn.cons (o := ({ dst := some 28, op := Op.buildSlice 22 1 #[(0, Operand.tmp 27)], type := 22, pos := "l09_terrain.go:105", after := #[{ on := 5, ground := Ground.data }], guard := none } : Oper)) rfl (fun K hK => ?_) ?_
            · go_simp
              refine hK _ _ ?_
              clear hK K
              try simp only [Act.put, List.setIfInBounds_toArray, List.set_cons_zero, List.set_cons_succ]
              refine wpAnyIn_ready (rs := [7]) (by kernel_rfl) (by simp) ?_
              refine AllReadyIn.cons (o := ({ dst := some 29, op := Op.call { callee := Callee.builtin Builtin.append, args := #[Operand.tmp 22, Operand.tmp 28], argTypes := #[22, 22] }, type := 22, pos := "l09_terrain.go:105", after := #[{ on := 0, ground := Ground.data }, { on := 6, ground := Ground.data }, { on := 5, ground := Ground.chain }], guard := none } : Oper)) rfl (fun K hK => ?_) ?_
              · refine stepIn_append_own_at rfl _ _ 22 rfl w1.heap.size 2 i0 (.int .i64 0) 1 8 Tryd.underlying22 hi hz0 hz1 hz2 rfl (by decide) _ _ _ rfl ((own_belowAll HR.out BA.out).alloc _) ⟨wA.heap.size, 0, none⟩ 1 1 [.int .i64 (N : Int)] rfl rfl (row_new _ [_] _) (iv_cell [(N : Int)]) (by unfold maxLen; omega) (by omega) (by have h1 := BA.out.size; have h2 := hrW.out; simp; omega) ?_
                intro v' w7 hown' hgrow hat
                obtain ⟨g7, cap7, rfl⟩ := ownsRow_succ hown'
                obtain ⟨hv1, hv2, hr2, hk2, hb2⟩ := (boxed_belowB HV.out BA.out).appended (by decide) (own_belowAll HR.out BA.out) (Nat.le_trans hrW.out BA.out.size) hrc.out hown' hgrow
                have hc1 := hv1.cell; have hf1 := hv1.frozen
                refine hK _ _ ?_
                clear hK K
                try simp only [Act.put, List.setIfInBounds_toArray, List.set_cons_zero, List.set_cons_succ]
                refine wpAnyIn_ready (rs := [8]) (by kernel_rfl) (by simp) ?_
                refine AllReadyIn.cons (o := ({ dst := none, op := Op.store 22 (Operand.tmp 7) (Operand.tmp 29), type := 0, pos := "l09_terrain.go:105", after := #[{ on := 7, ground := Ground.data }, { on := 7, ground := Ground.chain }, { on := 0, ground := Ground.phase }, { on := 1, ground := Ground.phase }, { on := 2, ground := Ground.phase }, { on := 3, ground := Ground.phase }, { on := 4, ground := Ground.phase }, { on := 5, ground := Ground.phase }, { on := 6, ground := Ground.phase }, { on := 7, ground := Ground.phase }], guard := none } : Oper)) rfl (fun K hK => ?_) ?_
                · go_simp
                  refine hK _ _ ?_
                  clear hK K
                  try simp only [Act.put, List.setIfInBounds_toArray, List.set_cons_zero, List.set_cons_succ]
                  refine wpAnyIn_done (by kernel_rfl) ?_ _
                  gi_wp2_with fail
                  have NE := nb_end (B := W0.heap.size) (P := fun i => i = w1.heap.size ∨ i = w3.heap.size) HI.out hB1 BA.out hgrow hat hgo.out (Or.inl rfl) (Or.inr rfl) hk2 hv2 hr2 ELEN.out
                  rw [← hmap.out] at NE
                  simp only [List.length_map] at NE
                  exact NE
                exact AllReadyIn.nil
              exact AllReadyIn.nil
            exact AllReadyIn.nil
          exact AllReadyIn.nil
        exact AllReadyIn.nil
      refine AllReadyIn.cons (o := ({ dst := some 24, op := Op.load 72 (Operand.tmp 23), type := 72, pos := "l09_terrain.go:105", after := #[{ on := 1, ground := Ground.data }], guard := none } : Oper)) rfl (fun K hK => ?_) ?_
      · go_simp
        refine hK _ _ ?_
        clear hK K
        try simp only [Act.put, List.setIfInBounds_toArray, List.set_cons_zero, List.set_cons_succ]
        refine wpAnyIn_ready (rs := [0, 5]) (by kernel_rfl) (by simp) ?_
        refine AllReadyIn.cons (o := ({ dst := some 22, op := Op.load 22 (Operand.tmp 7), type := 22, pos := "l09_terrain.go:105", after := #[], guard := none } : Oper)) rfl (fun K hK => ?_) ?_
        · go_simp
          refine hK _ _ ?_
          clear hK K
          try simp only [Act.put, List.setIfInBounds_toArray, List.set_cons_zero, List.set_cons_succ]
          refine wpAnyIn_ready (rs := [5]) (by kernel_rfl) (by simp) ?_
          refine AllReadyIn.cons (o := ({ dst := some 27, op := Op.call { callee := Callee.value (Operand.func 50), args := #[Operand.tmp 24, Operand.tmp 26], argTypes := #[72, 2] }, type := 2, pos := "l09_terrain.go:105", after := #[{ on := 2, ground := Ground.data }, { on := 4, ground := Ground.data }], guard := none } : Oper)) rfl (fun K hK => ?_) ?_
          · go_simp
            refine ⟨trivial, fun _ => by omega, (callsIn_wide.2 (CP.out _)).mono ?_⟩
            rintro e wA ⟨rfl, bA⟩
            have BA := Lib.hid (bt BD.out bA)
            clear bA
            have x0 := (boxed_belowB HV.out BA.out).cell; have hcbA := (boxed_belowB HV.out BA.out).lt
            refine hK _ _ ?_
            clear hK K
            try simp only [Act.put, List.setIfInBounds_toArray, List.set_cons_zero, List.set_cons_succ]
            refine wpAnyIn_ready (rs := [6]) (by kernel_rfl) (by simp) ?_
            refine AllReadyIn.cons (o := ({ dst := some 28, op := Op.buildSlice 22 1 #[(0, Operand.tmp 27)], type := 22, pos := "l09_terrain.go:105", after := #[{ on := 5, ground := Ground.data }], guard := none } : Oper)) rfl (fun K hK => ?_) ?_
            · go_simp
              refine hK _ _ ?_
              clear hK K
              try simp only [Act.put, List.setIfInBounds_toArray, List.set_cons_zero, List.set_cons_succ]
              refine wpAnyIn_ready (rs := [7]) (by kernel_rfl) (by simp) ?_
              refine AllReadyIn.cons (o := ({ dst := some 29, op := Op.call { callee := Callee.builtin Builtin.append, args := #[Operand.tmp 22, Operand.tmp 28], argTypes := #[22, 22] }, type := 22, pos := "l09_terrain.go:105", after := #[{ on := 0, ground := Ground.data }, { on := 6, ground := Ground.data }, { on := 5, ground := Ground.chain }], guard := none } : Oper)) rfl (fun K hK => ?_) ?_
              · refine stepIn_append_own_at rfl _ _ 22 rfl w1.heap.size 2 i0 (.int .i64 0) 1 8 Tryd.underlying22 hi hz0 hz1 hz2 rfl (by decide) _ _ _ rfl ((own_belowAll HR.out BA.out).alloc _) ⟨wA.heap.size, 0, none⟩ 1 1 [.int .i64 (N : Int)] rfl rfl (row_new _ [_] _) (iv_cell [(N : Int)]) (by unfold maxLen; omega) (by omega) (by have h1 := BA.out.size; have h2 := hrW.out; simp; omega) ?_
                intro v' w7 hown' hgrow hat
                obtain ⟨g7, cap7, rfl⟩ := ownsRow_succ hown'
                obtain ⟨hv1, hv2, hr2, hk2, hb2⟩ := (boxed_belowB HV.out BA.out).appended (by decide) (own_belowAll HR.out BA.out) (Nat.le_trans hrW.out BA.out.size) hrc.out hown' hgrow
                have hc1 := hv1.cell; have hf1 := hv1.frozen
                refine hK _ _ ?_
                clear hK K
                try simp only [Act.put, List.setIfInBounds_toArray, List.set_cons_zero, List.set_cons_succ]
                refine wpAnyIn_ready (rs := [8]) (by kernel_rfl) (by simp) ?_
                refine AllReadyIn.cons (o := ({ dst := none, op := Op.store 22 (Operand.tmp 7) (Operand.tmp 29), type := 0, pos := "l09_terrain.go:105", after := #[{ on := 7, ground := Ground.data }, { on := 7, ground := Ground.chain }, { on := 0, ground := Ground.phase }, { on := 1, ground := Ground.phase }, { on := 2, ground := Ground.phase }, { on := 3, ground := Ground.phase }, { on := 4, ground := Ground.phase }, { on := 5, ground := Ground.phase }, { on := 6, ground := Ground.phase }, { on := 7, ground := Ground.phase }], guard := none } : Oper)) rfl (fun K hK => ?_) ?_
                · go_simp
                  refine hK _ _ ?_
                  clear hK K
                  try simp only [Act.put, List.setIfInBounds_toArray, List.set_cons_zero, List.set_cons_succ]
                  refine wpAnyIn_done (by kernel_rfl) ?_ _
                  gi_wp2_with fail
                  have NE := nb_end (B := W0.heap.size) (P := fun i => i = w1.heap.size ∨ i = w3.heap.size) HI.out hB1 BA.out hgrow hat hgo.out (Or.inl rfl) (Or.inr rfl) hk2 hv2 hr2 ELEN.out
                  rw [← hmap.out] at NE
                  simp only [List.length_map] at NE
                  exact NE
                exact AllReadyIn.nil
              exact AllReadyIn.nil
            exact AllReadyIn.nil
          exact AllReadyIn.nil
        refine AllReadyIn.cons (o := ({ dst := some 27, op := Op.call { callee := Callee.value (Operand.func 50), args := #[Operand.tmp 24, Operand.tmp 26], argTypes := #[72, 2] }, type := 2, pos := "l09_terrain.go:105", after := #[{ on := 2, ground := Ground.data }, { on := 4, ground := Ground.data }], guard := none } : Oper)) rfl (fun K hK => ?_) ?_
        · go_simp
          refine ⟨trivial, fun _ => by omega, (callsIn_wide.2 (CP.out _)).mono ?_⟩
          rintro e wA ⟨rfl, bA⟩
          have BA := Lib.hid (bt BD.out bA)
          clear bA
          have x0 := (boxed_belowB HV.out BA.out).cell; have hcbA := (boxed_belowB HV.out BA.out).lt
          refine hK _ _ ?_
          clear hK K
          try simp only [Act.put, List.setIfInBounds_toArray, List.set_cons_zero, List.set_cons_succ]
          refine wpAnyIn_ready (rs := [0, 6]) (by kernel_rfl) (by simp) ?_
          refine AllReadyIn.cons (o := ({ dst := some 22, op := Op.load 22 (Operand.tmp 7), type := 22, pos := "l09_terrain.go:105", after := #[], guard := none } : Oper)) rfl (fun K hK => ?_) ?_
          · go_simp
            refine hK _ _ ?_
            clear hK K
            try simp only [Act.put, List.setIfInBounds_toArray, List.set_cons_zero, List.set_cons_succ]
            refine wpAnyIn_ready (rs := [6]) (by kernel_rfl) (by simp) ?_
            refine AllReadyIn.cons (o := ({ dst := some 28, op := Op.buildSlice 22 1 #[(0, Operand.tmp 27)], type := 22, pos := "l09_terrain.go:105", after := #[{ on := 5, ground := Ground.data }], guard := none } : Oper)) rfl (fun K hK => ?_) ?_
            · go_simp
              refine hK _ _ ?_
              clear hK K
              try simp only [Act.put, List.setIfInBounds_toArray, List.set_cons_zero, List.set_cons_succ]
              refine wpAnyIn_ready (rs := [7]) (by kernel_rfl) (by simp) ?_
              refine AllReadyIn.cons (o := ({ dst := some 29, op := Op.call { callee := Callee.builtin Builtin.append, args := #[Operand.tmp 22, Operand.tmp 28], argTypes := #[22, 22] }, type := 22, pos := "l09_terrain.go:105", after := #[{ on := 0, ground := Ground.data }, { on := 6, ground := Ground.data }, { on := 5, ground := Ground.chain }], guard := none } : Oper)) rfl (fun K hK => ?_) ?_
              · refine stepIn_append_own_at rfl _ _ 22 rfl w1.heap.size 2 i0 (.int .i64 0) 1 8 Tryd.underlying22 hi hz0 hz1 hz2 rfl (by decide) _ _ _ rfl ((own_belowAll HR.out BA.out).alloc _) ⟨wA.heap.size, 0, none⟩ 1 1 [.int .i64 (N : Int)] rfl rfl (row_new _ [_] _) (iv_cell [(N : Int)]) (by unfold maxLen; omega) (by omega) (by have h1 := BA.out.size; have h2 := hrW.out; simp; omega) ?_
                intro v' w7 hown' hgrow hat
                obtain ⟨g7, cap7, rfl⟩ := ownsRow_succ hown'
                obtain ⟨hv1, hv2, hr2, hk2, hb2⟩ := (boxed_belowB HV.out BA.out).appended (by decide) (own_belowAll HR.out BA.out) (Nat.le_trans hrW.out BA.out.size) hrc.out hown' hgrow
                have hc1 := hv1.cell; have hf1 := hv1.frozen
                refine hK _ _ ?_
                clear hK K
                try simp only [Act.put, List.setIfInBounds_toArray, List.set_cons_zero, List.set_cons_succ]
                refine wpAnyIn_ready (rs := [8]) (by kernel_rfl) (by simp) ?_
                refine AllReadyIn.cons (o := ({ dst := none, op := Op.store 22 (Operand.tmp 7) (Operand.tmp 29), type := 0, pos := "l09_terrain.go:105", after := #[{ on := 7, ground := Ground.data }, { on := 7, ground := Ground.chain }, { on := 0, ground := Ground.phase }, { on := 1, ground := Ground.phase }, { on := 2, ground := Ground.phase }, { on := 3, ground := Ground.phase }, { on := 4, ground := Ground.phase }, { on := 5, ground := Ground.phase }, { on := 6, ground := Ground.phase }, { on := 7, ground := Ground.phase }], guard := none } : Oper)) rfl (fun K hK => ?_) ?_
                · go_simp
                  refine hK _ _ ?_
                  clear hK K
                  try simp only [Act.put, List.setIfInBounds_toArray, List.set_cons_zero, List.set_cons_succ]
                  refine wpAnyIn_done (by kernel_rfl) ?_ _
                  gi_wp2_with fail
                  have NE := nb_end (B := W0.heap.size) (P := fun i => i = w1.heap.size ∨ i = w3.heap.size) HI.out hB1 BA.out hgrow hat hgo.out (Or.inl rfl) (Or.inr rfl) hk2 hv2 hr2 ELEN.out
                  rw [← hmap.out] at NE
                  simp only [List.length_map] at NE
                  exact NE
                exact AllReadyIn.nil
              exact AllReadyIn.nil
            exact AllReadyIn.nil
          refine AllReadyIn.cons (o := ({ dst := some 28, op := Op.buildSlice 22 1 #[(0, Operand.tmp 27)], type := 22, pos := "l09_terrain.go:105", after := #[{ on := 5, ground := Ground.data }], guard := none } : Oper)) rfl (fun K hK => ?_) ?_
          · go_simp
            refine hK _ _ ?_
            clear hK K
            try simp only [Act.put, List.setIfInBounds_toArray, List.set_cons_zero, List.set_cons_succ]
            refine wpAnyIn_ready (rs := [0]) (by kernel_rfl) (by simp) ?_
            refine AllReadyIn.cons (o := ({ dst := some 22, op := Op.load 22 (Operand.tmp 7), type := 22, pos := "l09_terrain.go:105", after := #[], guard := none } : Oper)) rfl (fun K hK => ?_) ?_
            · go_simp
              refine hK _ _ ?_
              clear hK K
              try simp only [Act.put, List.setIfInBounds_toArray, List.set_cons_zero, List.set_cons_succ]
              refine wpAnyIn_ready (rs := [7]) (by kernel_rfl) (by simp) ?_
              refine AllReadyIn.cons (o := ({ dst := some 29, op := Op.call { callee := Callee.builtin Builtin.append, args := #[Operand.tmp 22, Operand.tmp 28], argTypes := #[22, 22] }, type := 22, pos := "l09_terrain.go:105", after := #[{ on := 0, ground := Ground.data }, { on := 6, ground := Ground.data }, { on := 5, ground := Ground.chain }], guard := none } : Oper)) rfl (fun K hK => ?_) ?_
              · refine stepIn_append_own_at rfl _ _ 22 rfl w1.heap.size 2 i0 (.int .i64 0) 1 8 Tryd.underlying22 hi hz0 hz1 hz2 rfl (by decide) _ _ _ rfl ((own_belowAll HR.out BA.out).alloc _) ⟨wA.heap.size, 0, none⟩ 1 1 [.int .i64 (N : Int)] rfl rfl (row_new _ [_] _) (iv_cell [(N : Int)]) (by unfold maxLen; omega) (by omega) (by have h1 := BA.out.size; have h2 := hrW.out; simp; omega) ?_
                intro v' w7 hown' hgrow hat
                obtain ⟨g7, cap7, rfl⟩ := ownsRow_succ hown'
                obtain ⟨hv1, hv2, hr2, hk2, hb2⟩ := (boxed_belowB HV.out BA.out).appended (by decide) (own_belowAll HR.out BA.out) (Nat.le_trans hrW.out BA.out.size) hrc.out hown' hgrow
                have hc1 := hv1.cell; have hf1 := hv1.frozen
                refine hK _ _ ?_
                clear hK K
                try simp only [Act.put, List.setIfInBounds_toArray, List.set_cons_zero, List.set_cons_succ]
                refine wpAnyIn_ready (rs := [8]) (by kernel_rfl) (by simp) ?_
                refine AllReadyIn.cons (o := ({ dst := none, op := Op.store 22 (Operand.tmp 7) (Operand.tmp 29), type := 0, pos := "l09_terrain.go:105", after := #[{ on := 7, ground := Ground.data }, { on := 7, ground := Ground.chain }, { on := 0, ground := Ground.phase }, { on := 1, ground := Ground.phase }, { on := 2, ground := Ground.phase }, { on := 3, ground := Ground.phase }, { on := 4, ground := Ground.phase }, { on := 5, ground := Ground.phase }, { on := 6, ground := Ground.phase }, { on := 7, ground := Ground.phase }], guard := none } : Oper)) rfl (fun K hK => ?_) ?_
                · go_simp
                  refine hK _ _ ?_
                  clear hK K
                  try simp only [Act.put, List.setIfInBounds_toArray, List.set_cons_zero, List.set_cons_succ]
                  refine wpAnyIn_done (by kernel_rfl) ?_ _
                  gi_wp2_with fail
                  have NE := nb_end (B := W0.heap.size) (P := fun i => i = w1.heap.size ∨ i = w3.heap.size) HI.out hB1 BA.out hgrow hat hgo.out (Or.inl rfl) (Or.inr rfl) hk2 hv2 hr2 ELEN.out
                  rw [← hmap.out] at NE
                  simp only [List.length_map] at NE
                  exact NE
                exact AllReadyIn.nil
              exact AllReadyIn.nil
            exact AllReadyIn.nil
          exact AllReadyIn.nil
        exact AllReadyIn.nil
      exact AllReadyIn.nil
    exact AllReadyIn.nil
  case done =>
    rintro D ys W hD hS ⟨⟨v, hv, hrow, hgo⟩, hB1⟩ hK
    have hys : ys.map (fun x => x.1) = Gw.dirs R C k := hS
    rw [hys] at hrow
    have hO : Own w1.heap.size W v ((Gw.dirs R C k).map (Gw.goC R C k)) := hrow
    have hln : ((Gw.dirs R C k).map (Gw.goC R C k)).length ≤ 8 := by rw [List.length_map]; exact Gw.dirs_le8 _ _ _
    have CS := Lib.hid (sortG_any w1.heap.size W v _ hO (by omega))
    rw [Gw.near_srt] at CS
    have HKX : Hid (∀ W8, W.grownBy W8 v.ownBlock → W8.heap[D]? = some (.deferred (some [])) ∧ Boxed W8 w3.heap.size 22 v) := Lib.hid (fun W8 hg8 => by
      refine ⟨(hg8.block D (Array.getElem?_eq_some_iff.1 hK).1 (fun e => ?_)).trans hK, hv.kept hg8 (hv.not_row (by decide) hrow)⟩
      rcases hrow.2 with ⟨rfl, _⟩ | ⟨g', cap2, cur, rfl, _, hgb, _⟩
      · cases e
      · simp only [Value.ownBlock, Option.some.injEq] at e
        rw [← e, hK] at hgb; cases hgb)
    have BW : Hid (Below w.heap.size w W) := Lib.hid (B0.out.trans (hB1.toBelow (by omega) (fun i hi => by rcases hi with h | h <;> omega)))
    have hvo : Hid (∀ j, v.ownBlock = some j → w.heap.size ≤ j) := Lib.hid (fun j e => by rcases hgo j e with h | h <;> omega)
    have hc := hv.cell
    obtain ⟨va, vcap, hvv⟩ := (Own.sl hO).form
    rw [List.length_map] at hvv
    subst hvv
    clear hys hS hA0 hO hrow hB1 hgo
    have hlen8 : Hid (((Gw.dirs R C k).map (Gw.goC R C k)).length = (Gw.near R C k 8).length) := Lib.hid (by rw [← Gw.near_srt, srt_len])
    generalize Gw.dirs R C k = DL at *
    generalize hNL : Gw.near R C k 8 = NL at *
    gi_wp2_with fail
    refine ⟨trivial, (callsIn_wide.2 CS.out).mono ?_⟩
    rintro e W8 ⟨rfl, o8, hg8⟩
    obtain ⟨hK8, hv8⟩ := HKX.out W8 hg8
    have B8 := Lib.hid (BW.out.grown hg8 BW.out.size hvo.out)
    have O8 := Lib.hid o8
    have hc8 := hv8.cell
    clear hc o8 hg8 hv CS HKX
    gi_wp2_with fail
    refine ⟨by simp, .inl ⟨_, _, rfl, run_takeDeferred hK8, ?_⟩⟩
    refine ⟨.tuple #[.slice va _ vcap, .int .i64 0], by simp [results, Tryd.results23, go_sem]; rfl, ?_⟩
    exact ⟨_, rfl, ownsRow_putObj (Go.Joins.ownsRow_le O8.out (by omega)) _ hK8 rfl, B8.out.trans (belowK_b (w := w) (Nat.le_refl _) W8 D _ _ (by omega) hK8 rfl rfl)⟩
  case stop =>
    rintro D c pre W _ _ h _
    exact h.elim
set_option maxHeartbeats 1600000 in
theorem neigh_no (w : World) (r c s : Int) (v : Value) (k e0 : Int) (h0 : e0 ≠ 0)
    (hc : Calls Tryd.prog 47 #[.agg #[.int .i64 r, .int .i64 c, .int .i64 s, v], .slice (some ⟨w.heap.size + 1, 0, none⟩) 1 1] ((w.alloc (.cells #[.int .i64 r, .int .i64 c, .int .i64 s, v] 28)).alloc (.cells #[.int .i64 k] 2)) fun e w' => e = .returned (.int .i64 e0) ∧ Below ((w.alloc (.cells #[.int .i64 r, .int .i64 c, .int .i64 s, v] 28)).alloc (.cells #[.int .i64 k] 2)).heap.size ((w.alloc (.cells #[.int .i64 r, .int .i64 c, .int .i64 s, v] 28)).alloc (.cells #[.int .i64 k] 2)) w') :
    Calls Tryd.prog 23 #[.agg #[.int .i64 r, .int .i64 c, .int .i64 s, v], .int .i64 k] w (RIp w [] e0) := by
  have B2 := Lib.hid (((Below.refl w.heap.size w).alloc (Nat.le_refl _) (.cells #[.int .i64 r, .int .i64 c, .int .i64 s, v] 28)).alloc (by simp) (.cells #[.int .i64 k] 2))
  have CC := Lib.hid hc
  have hcb : (e0 != 0) = true := bne_iff_ne.2 h0
  clear hc h0
  go_enter Tryd.func23, Tryd.ntmps23
  go_wp2_with fail
  refine CC.out.mono ?_
  rintro e w1 ⟨rfl, b1⟩
  have B1 := Lib.hid (bt B2.out b1)
  clear b1 CC
  go_wp2_with fail
  exact bodyPost_ret (v := .tuple #[.slice none 0 0, .int .i64 e0]) (by simp [results, Tryd.results23, go_sem]) rfl (RIp.no B1.out)
namespace Gw
theorem nb_bad {r c s : Int} {zs : List Int} {k : Int} (h : ok r c s zs = false) : nbL r c s zs k = [] ∧ askC r c s zs k = 1 := by unfold nbL askC; rw [h, Cd.ls_f, Cd.cd_f]; exact ⟨rfl, rfl⟩
theorem nb_out {r c s : Int} {zs : List Int} {k : Int} (h : ok r c s zs = true) (h2 : isCell r c k = false) : nbL r c s zs k = [] ∧ askC r c s zs k = 2 := by unfold nbL askC; rw [h, h2, Cd.ls_tf, Cd.cd_tf]; exact ⟨rfl, rfl⟩
theorem nb_in {r c s : Int} {zs : List Int} {k : Int} (h : ok r c s zs = true) (h2 : isCell r c k = true) : nbL r c s zs k = near r c k 8 ∧ askC r c s zs k = 0 := by unfold nbL askC; rw [h, h2, Cd.ls_t, Cd.cd_t]; exact ⟨rfl, rfl⟩
end Gw
theorem implNeighboursOf_any (w : World) (r c s : Int) (v : Value) (zs : List Int) (k : Int) (ho : IAt w v zs) (hl : zs.length ≤ 1048576) (hA : AspAt w) :
    Calls Tryd.prog 23 #[.agg #[.int .i64 r, .int .i64 c, .int .i64 s, v], .int .i64 k] w (RIp w (Gw.nbL r c s zs k) (Gw.askC r c s zs k)) := by
  have HB := boxG_below w r c s v 28
  have CC := cellsCode_any ((boxG w r c s v 28).alloc (.cells #[.int .i64 k] 2)) r c s v _ zs [k] (ho.sl.below (HB.alloc HB.size _)) (one_slT (boxG w r c s v 28) k) hl (by simp)
  have hany : (!([k].any fun x => !Ar.inB 0 x (zs.length - 1))) = Ar.inB 0 k (zs.length - 1) := by simp
  rw [hany, boxG_size] at CC
  unfold boxG at CC
  cases hq : Gw.ok r c s zs with
  | false =>
    rw [hq, Cd.cd_f] at CC
    rw [(Gw.nb_bad hq).1, (Gw.nb_bad hq).2]
    exact neigh_no w r c s v k 1 (by decide) CC
  | true =>
    have G := (Gw.ok_iff _ _ _ _).1 hq
    have hbi : Ar.inB 0 k (zs.length - 1) = Gw.isCell r c k := by unfold Gw.isCell; rw [G.n]
    rw [hq, hbi] at CC
    cases hi : Gw.isCell r c k with
    | false =>
      rw [hi, Cd.cd_tf] at CC
      rw [(Gw.nb_out hq hi).1, (Gw.nb_out hq hi).2]
      exact neigh_no w r c s v k 2 (by decide) CC
    | true =>
      rw [(Gw.nb_in hq hi).1, (Gw.nb_in hq hi).2]
      obtain ⟨k1, k2⟩ := Gw.isCell_bd hi G.r1 G.r2 G.c1 G.c2
      have hkl : k.toNat < zs.length := Gw.isCell_lt hi G.n
      obtain ⟨R, rfl⟩ : ∃ R : Nat, r = (R : Int) := ⟨r.toNat, (Int.toNat_of_nonneg (by have := G.r1; omega)).symm⟩
      obtain ⟨C, rfl⟩ : ∃ C : Nat, c = (C : Int) := ⟨c.toNat, (Int.toNat_of_nonneg (by have := G.c1; omega)).symm⟩
      obtain ⟨kn, rfl⟩ : ∃ kn : Nat, k = (kn : Int) := ⟨k.toNat, (Int.toNat_of_nonneg k1).symm⟩
      rw [Int.toNat_natCast] at hkl
      obtain ⟨Bo, g0, cap, rfl, hown⟩ := ho
      exact callsIn_wide.1 (neighAt_in 8 (Nat.le_refl _) w R C kn g0 cap Bo s zs G hkl hown hA)
end Go.Proofs.YthcmpalbhaefbaaDoor

/-
  Tests by groups, in a map of rows (impl.groupsBy): what the map holds. No condition of its own.
-/
import Derived.Test.YteileaeeiejonaaDoorTkF
import Derived.Maps.Own
import Derived.Maps.OwnOps
import Derived.Maps.OwnSet
import Derived.Maps.Views
import Derived.Maps.AppendAt
import Derived.Maps.RangeWalk
import Derived.RangeFuncBox
namespace Go.Proofs.YteileaeeiejonaaDoor
open Go.RowKit Go.Shelf Go.Maps
set_option linter.unusedVariables false
set_option maxRecDepth 100000

/-- a group's row: its block, how many it holds, its capacity -/
abbrev En := Nat × Nat × Nat
def enV (e : En) : Value := .slice (some ⟨e.1, 0, none⟩) e.2.1 e.2.2
def kI (q : Int) : Lit := .int .i64 q
theorem kI_ne {a b : Int} (h : a ≠ b) : kI a ≠ kI b := fun e => h (by unfold kI at e; injection e)
theorem kI_key (q : Int) : WideAt.IsKeyLit (kI q) := True.intro
def rlE (e : En) : DataW Unit := .agg [.lit (.int .i64 e.1), .lit (.int .i64 e.2.1), .lit (.int .i64 e.2.2)]
def RG : Value → Option (DataW Unit × List MemPlace)
  | .slice (some ⟨g, 0, none⟩) n c => some (rlE (g, n, c), [])
  | .slice none 0 0 => some (.nil, [])
  | _ => none
theorem RG_en (e : En) : RG (enV e) = some (rlE e, []) := rfl
theorem rlE_inj {a b : En} (h : rlE a = rlE b) : a = b := by
  unfold rlE at h
  simp only [DataW.agg.injEq, List.cons.injEq, DataW.lit.injEq, Lit.int.injEq, true_and, and_true, Int.natCast_inj] at h
  obtain ⟨h1, h2, h3⟩ := h
  exact Prod.ext h1 (Prod.ext h2 h3)
theorem RG_inv {v : Value} {y : DataW Unit × List MemPlace} (h : RG v = some y) : (∃ e, v = enV e ∧ y.1 = rlE e) ∨ (v = .slice none 0 0 ∧ y.1 = .nil) := by
  unfold RG at h
  split at h
  · next g n c => simp only [Option.some.injEq] at h; subst h; exact Or.inl ⟨(g, n, c), rfl, rfl⟩
  · simp only [Option.some.injEq] at h; subst h; exact Or.inr ⟨rfl, rfl⟩
  · cases h
/-- the map of the groups in block b: M says each group's row -/
structure GB (B : Nat) (w : World) (b k : Nat) (D : DataW Unit) (M : Int → Option En) : Prop where
  own : w.ownsMap Tryd.prog 2 RG b k D
  hit : ∀ q e, M q = some e → ∀ z, D.atKey (kI q) z = rlE e
  miss : ∀ q, M q = none → ∀ z, D.atKey (kI q) z = z
  has : ∀ q e, M q = some e → Maps.has D (kI q) = true
  row : ∀ q e, M q = some e → ∃ vs, w.ownsRow B 35 5 (enV e) e.2.1 vs
  inj : ∀ q q' e e', M q = some e → M q' = some e' → e.1 = e'.1 → q = q'
  isM : IsMap D
theorem GB.below {B b k : Nat} {w w' : World} {D : DataW Unit} {M : Int → Option En} (h : GB B w b k D M) (hb : Below w.heap.size w w') : GB B w' b k D M := by
  refine ⟨?_, h.hit, h.miss, h.has, fun q e he => ?_, h.inj, h.isM⟩
  · have hlt := h.own.lt
    obtain ⟨es, clock, hb', F, hs, hD⟩ := h.own
    exact ⟨es, clock, (hb.block b hlt).trans hb', F, hs, hD⟩
  · obtain ⟨vs, hv⟩ := h.row q e he
    exact ⟨vs, own_belowAll hv hb⟩
theorem own_notMap {B b n : Nat} {w : World} {e : En} {vs : List Value} {es : Array MapEntry} {c : Nat} (h : w.ownsRow B 35 5 (enV e) n vs) (hb : w.heap[b]? = some (.map es c)) : e.1 ≠ b := by
  intro he
  rcases h.2 with ⟨h0, -⟩ | ⟨g, cap, cur, h0, -, hh, -⟩
  · cases h0
  · unfold enV at h0
    simp only [Value.slice.injEq, Option.some.injEq, Addr.mk.injEq] at h0
    obtain ⟨⟨rfl, -⟩, -, -⟩ := h0
    rw [he, hb] at hh
    cases hh
def upd (M : Int → Option En) (q0 : Int) (e : En) : Int → Option En := fun q => if q = q0 then some e else M q
/-- the value that a look-up finds -/
def RowIs (M : Int → Option En) (q0 : Int) (v : Value) (n : Nat) : Prop := (M q0 = none ∧ v = .slice none 0 0 ∧ n = 0) ∨ ∃ e, M q0 = some e ∧ v = enV e ∧ n = e.2.1
theorem GB.look {B b k : Nat} {w : World} {D : DataW Unit} {M : Int → Option En} (h : GB B w b k D M) {T : TypeId} (hT : Tryd.prog.underlying T = some (.map 2 27)) (q0 : Int) (hq : (Lit.int .i64 q0).wf = true) :
    ∃ v n vs, (Instr.lookup T (.map (some b)) (.int .i64 q0) false).run Tryd.prog w = .ok v w ∧ RowIs M q0 v n ∧ w.ownsRow B 35 5 v n vs := by
  obtain ⟨v, ps, hrun, hR⟩ := h.own.lookup (int_keyed Tryd.underlying2) hT (z := .slice none 0 0) (by kernel_rfl) (zd := .nil) (zp := []) rfl (key := .int .i64 q0) (kl := kI q0) (keyOf_int_mk Tryd.underlying2 hq)
  cases hM : M q0 with
  | none =>
    rw [h.miss q0 hM] at hR
    rcases RG_inv hR with ⟨e, -, he⟩ | ⟨rfl, -⟩
    · cases he
    · exact ⟨_, 0, [], hrun, Or.inl ⟨hM, rfl, rfl⟩, World.ownsRow_nil _ _ _ _⟩
  | some e =>
    rw [h.hit q0 e hM] at hR
    obtain ⟨vs, hv⟩ := h.row q0 e hM
    rcases RG_inv hR with ⟨e', rfl, he⟩ | ⟨-, he⟩
    · have := rlE_inj he; subst this
      exact ⟨_, _, vs, hrun, Or.inr ⟨e, hM, rfl, rfl⟩, hv⟩
    · cases he
theorem GB.put {B b k n : Nat} {w wa w3 w4 : World} {D : DataW Unit} {M : Int → Option En} {q0 : Int} {v0 : Value} {e' : En} {vs' : List Value} (h : GB B w b k D M) (hM : RowIs M q0 v0 n) (ha : Below w.heap.size w wa)
    (h3 : w3.ownsRow B 35 5 (enV e') e'.2.1 vs') (g3 : wa.grownBy w3 v0.ownBlock) (hblk : (enV e').ownBlock = v0.ownBlock ∨ (enV e').ownBlock = some wa.heap.size)
    (h4 : w4.ownsMap Tryd.prog 2 RG b (k + 1) (D.put (kI q0) (rlE e'))) (g4 : w3.grownBy w4 (some b)) : GB B w4 b (k + 1) (D.put (kI q0) (rlE e')) (upd M q0 e') := by
  have hA := h.below ha
  have hmap := hA.own
  obtain ⟨es, clock, hbm, -⟩ := id hmap
  have hvb : v0.ownBlock ≠ some b := by
    rcases hM with ⟨-, rfl, -⟩ | ⟨e, he, rfl, -⟩
    · intro hc; cases hc
    · intro hc
      obtain ⟨vs, hv⟩ := hA.row q0 e he
      exact own_notMap hv hbm (by simpa [enV, Value.ownBlock] using hc)
  have hb3 : w3.heap[b]? = some (.map es clock) := (g3.block b hmap.lt (fun e => hvb e.symm)).trans hbm
  have put4 : ∀ (e : En) (vs : List Value), w3.ownsRow B 35 5 (enV e) e.2.1 vs → w4.ownsRow B 35 5 (enV e) e.2.1 vs := fun e vs hv =>
    World.ownsRow.kept hv g4 (Or.inr (fun hc => own_notMap hv hb3 (by simpa [enV, Value.ownBlock] using hc)))
  have apart : ∀ q e, q ≠ q0 → M q = some e → (enV e).ownBlock ≠ v0.ownBlock := by
    intro q e hq he hc
    rcases hM with ⟨-, rfl, -⟩ | ⟨e0, he0, rfl, -⟩
    · cases hc
    · exact hq (h.inj q q0 e e0 he he0 (by simpa [enV, Value.ownBlock] using hc))
  have other : ∀ q e, q ≠ q0 → M q = some e → e.1 ≠ e'.1 := by
    intro q e hq he hc
    have hcb : (enV e).ownBlock = (enV e').ownBlock := by simp [enV, Value.ownBlock, hc]
    rcases hblk with hb | hb
    · exact apart q e hq he (hcb.trans hb)
    · obtain ⟨vs, hv⟩ := hA.row q e he
      have := (World.ownsRow.lt hv wa.heap.size (hcb.trans hb)).2
      omega
  refine ⟨h4, fun q e he z => ?_, fun q he z => ?_, fun q e he => ?_, fun q e he => ?_, fun q q' e1 e2 h1 h2 h12 => ?_, h.isM.put _ _⟩
  · unfold upd at he
    split at he
    · next hq => subst hq; simp only [Option.some.injEq] at he; subst he; exact atKey_put_same h.isM (kI_key _) _ _
    · next hq => rw [atKey_put_other (kI_ne hq)]; exact h.hit q e he z
  · unfold upd at he
    split at he
    · cases he
    · next hq => rw [atKey_put_other (kI_ne hq)]; exact h.miss q he z
  · unfold upd at he
    split at he
    · next hq => subst hq; exact has_put_same h.isM (kI_key _) _
    · next hq => rw [has_put_other (kI_ne hq)]; exact h.has q e he
  · unfold upd at he
    split at he
    · simp only [Option.some.injEq] at he; subst he; exact ⟨vs', put4 _ _ h3⟩
    · next hq =>
      obtain ⟨vs, hv⟩ := hA.row q e he
      exact ⟨vs, put4 _ _ (World.ownsRow.kept hv g3 (Or.inr (apart q e hq he)))⟩
  · unfold upd at h1 h2
    split at h1 <;> split at h2
    · next a b => rw [a, b]
    · next a b => simp only [Option.some.injEq] at h1; subst h1; exact absurd h12.symm (other q' e2 b h2)
    · next a b => simp only [Option.some.injEq] at h2; subst h2; exact absurd h12 (other q e1 a h1)
    · exact h.inj q q' e1 e2 h1 h2 h12
theorem GB.own3 {B b k n : Nat} {w wa w3 : World} {D : DataW Unit} {M : Int → Option En} {q0 : Int} {v0 : Value} (h : GB B w b k D M) (hM : RowIs M q0 v0 n) (ha : Below w.heap.size w wa) (g3 : wa.grownBy w3 v0.ownBlock) : w3.ownsMap Tryd.prog 2 RG b k D := by
  have hA := h.below ha
  obtain ⟨es, clock, hbm, -⟩ := id hA.own
  refine hA.own.kept g3 (fun e => ?_)
  rcases hM with ⟨-, rfl, -⟩ | ⟨e0, he, rfl, -⟩
  · cases e
  · obtain ⟨vs, hv⟩ := hA.row q0 e0 he
    exact own_notMap hv hbm (by simpa [enV, Value.ownBlock] using e.symm)
/-- how many tests have a key -/
def gc (f : Tst → Int) (q : Int) (ys : List Tst) : Nat := (ys.filter fun x => f x == q).length
theorem gc_take (f : Tst → Int) (q : Int) {xs : List Tst} {k : Nat} (h : k < xs.length) : gc f q (xs.take (k + 1)) = gc f q (xs.take k) + (if f xs[k] = q then 1 else 0) := by
  rw [List.take_succ_eq_append_getElem h]; unfold gc
  rw [List.filter_append, List.length_append]
  by_cases hf : f xs[k] = q <;> simp [hf]
theorem gc_le (f : Tst → Int) (q : Int) (ys : List Tst) : gc f q ys ≤ ys.length := List.length_filter_le _ _
/-- the rows are as long as there are tests with their keys -/
def CntOk (f : Tst → Int) (M : Int → Option En) (ys : List Tst) : Prop := ∀ q, (M q = none → gc f q ys = 0) ∧ ∀ e, M q = some e → e.2.1 = gc f q ys ∧ 0 < e.2.1
theorem CntOk.step {f : Tst → Int} {M : Int → Option En} {xs : List Tst} {k n : Nat} {v : Value} {e' : En} (hk : k < xs.length) (h : CntOk f M (xs.take k)) (hM : RowIs M (f xs[k]) v n) (he : e'.2.1 = n + 1) : CntOk f (upd M (f xs[k]) e') (xs.take (k + 1)) := by
  intro q
  rw [gc_take f q hk]
  unfold upd
  by_cases hq : q = f xs[k]
  · subst hq
    rw [if_pos rfl, if_pos rfl]
    refine ⟨(fun hc => by cases hc), fun e hc => ?_⟩
    simp only [Option.some.injEq] at hc
    subst hc
    rcases hM with ⟨h1, -, h2⟩ | ⟨e0, h1, -, h2⟩
    · have := (h (f xs[k])).1 h1; omega
    · have := (h (f xs[k])).2 e0 h1; omega
  · rw [if_neg hq, if_neg (fun hc => hq hc.symm)]
    exact h q
theorem RowIs.len {f : Tst → Int} {M : Int → Option En} {ys : List Tst} {q : Int} {v : Value} {n : Nat} (h : CntOk f M ys) (hM : RowIs M q v n) : n ≤ ys.length := by
  rcases hM with ⟨-, -, h2⟩ | ⟨e0, h1, -, h2⟩
  · omega
  · have := (h q).2 e0 h1; have := gc_le f q ys; omega
set_option maxHeartbeats 3200000 in
theorem groupsTst_any (g : Nat) (f : Tst → Int) (w : World) (v : Value) (xs : List Tst) (eg : ∀ args w, (callFunc g args).run Tryd.prog w = .ok (.enter g args) w) (hl : xs.length ≤ 1000) (hv : TeSl w v xs)
    (hf : ∀ k (hk : k < xs.length), 0 ≤ f xs[k] ∧ f xs[k] ≤ 1000000)
    (hc : ∀ k (hk : k < xs.length) W, Below w.heap.size w W → Calls Tryd.prog g #[.agg #[.int .i64 xs[k].ki, .int .i64 xs[k].sc, .int .i64 xs[k].qu, .int .i64 xs[k].de, .int .i64 xs[k].ho]] W fun e w' => e = .returned (.int .i64 (f xs[k])) ∧ Below W.heap.size W w') :
    Calls Tryd.prog 70 #[v, .func (.func g) #[] #[]] w fun e w' => ∃ D M, e = .returned (.map (some w.heap.size)) ∧ GB w.heap.size w' w.heap.size xs.length D M ∧ CntOk f M xs ∧ Below w.heap.size w w' := by
  have hmm := @run_makeMap Tryd.prog
  obtain ⟨i0, hi, hz0, hz1, hz2⟩ := info_parts info_Test
  obtain ⟨a, cap, rfl⟩ := hv.form
  have HV := Lib.hid hv
  have HF := Lib.hid hf
  have HC := Lib.hid hc
  have X1 : Hid (GB w.heap.size (w.alloc (.map #[] 0)) w.heap.size 0 (.map []) (fun _ => none)) := Lib.hid ⟨World.ownsMap_made _ _ _ _, (fun q e h => by cases h), (fun q h z => rfl), (fun q e h => by cases h), (fun q e h => by cases h), (fun q q' e e' h => by cases h), ⟨_, rfl⟩⟩
  have B1 := Lib.hid ((Below.refl w.heap.size w).alloc (Nat.le_refl _) (.map #[] 0))
  clear hv hf hc
  go_enter Tryd.func70, Tryd.ntmps70
  go_wp2
  clear hmm
  go_loopw [7, 8, 12] (fun _ _ i wr => ∃ (k : Nat) (D : DataW Unit) (M : Int → Option En), k ≤ xs.length ∧ i = .int .i64 k ∧ Hid (GB w.heap.size wr w.heap.size k D M) ∧ Hid (CntOk f M (xs.take k)) ∧ Hid (Below w.heap.size w wr)) (fun _ _ i _ => xs.length - (intOf i).toNat)
  case atStart => exact ⟨0, _, _, Nat.zero_le _, rfl, X1, Lib.hid (fun q => ⟨fun _ => rfl, fun e h => by cases h⟩), B1⟩
  case round =>
    obtain ⟨k, D, M, hk, rfl, hX, hN, hbw⟩ := hrel
    clear X1
    by_cases hlt : k < xs.length
    · have hltz : (k : Int) < (xs.length : Int) := by omega
      obtain ⟨b, off, cap1, hn, hbl, hcc⟩ := (HV.out.below hbw.out).at_ hlt
      simp only [Value.slice.injEq] at hn
      obtain ⟨rfl, -, rfl⟩ := hn
      obtain ⟨c0, c1, c2, c3, c4⟩ := hcc k hlt
      have hlb := hbl
      have BX := Lib.hid (bt hbw.out (boxTst_below wr xs[k] 35))
      have CL := Lib.hid (HC.out k hlt (boxTst wr xs[k] 35) BX.out)
      have KX := Lib.hid (fun W (h : Below (boxTst wr xs[k] 35).heap.size (boxTst wr xs[k] 35) W) => boxTst_kept h)
      have GX := Lib.hid (hX.out.below (boxTst_below wr xs[k] 35))
      have x3 := (boxTst_cells wr xs[k] 35).c0
      have x4 := (boxTst_cells wr xs[k] 35).c1
      have x5 := (boxTst_cells wr xs[k] 35).c2
      have x6 := (boxTst_cells wr xs[k] 35).c3
      have x7 := (boxTst_cells wr xs[k] 35).c4
      have hq := HF.out k hlt
      have hqw : (Lit.int .i64 (f xs[k])).wf = true := WalkArith.wf_i64 (by omega)
      have HST := Lib.hid (fun (v : Value) (n : Nat) (e' : En) (hM : RowIs M (f xs[k]) v n) (he : e'.2.1 = n + 1) => CntOk.step hlt hN.out hM he)
      have HLN := Lib.hid (fun (v : Value) (n : Nat) (hM : RowIs M (f xs[k]) v n) => (Nat.le_trans (hM.len hN.out) (List.length_take_le _ _) : n ≤ k))
      clear hcc hq
      generalize f xs[k] = q0 at *
      unfold boxTst at BX CL KX GX x3 x4 x5 x6 x7
      go_wp2_with fail
      go_at_fn g
      refine CL.out.mono ?_
      rintro e w2 ⟨rfl, b2⟩
      have B2 := Lib.hid (bt BX.out b2)
      have G2 := Lib.hid (GX.out.below b2)
      obtain ⟨d0, d1, d2, d3, d4⟩ := KX.out w2 b2
      have hdl := World.block_lt_of_cell? w2 _ d0
      obtain ⟨v0, n0, vs0, hlook, hM, hrow⟩ := G2.out.look (T := 78) Tryd.underlying78 q0 hqw
      have hn0 := HLN.out v0 n0 hM
      have HM := Lib.hid hM
      have HR := Lib.hid hrow
      have HQ := Lib.hid hqw
      clear b2 hX c0 c1 c2 c3 c4 x3 x4 x5 x6 x7 hM hrow hqw
      go_wp2_with (first
        | (at_builtin; refine wpList_append_own_at _ rfl _ _ 27 rfl w.heap.size 35 i0 (.agg #[.int .i64 0, .int .i64 0, .int .i64 0, .int .i64 0, .int .i64 0]) 5 40 Tryd.underlying27 hi hz0 hz1 hz2 rfl (by decide) v0 n0 vs0 rfl (own_belowAll HR.out ((Below.refl _ _).alloc (Nat.le_refl _) _)) ⟨w2.heap.size, 0, none⟩ 1 1 [.int .i64 xs[k].ki, .int .i64 xs[k].sc, .int .i64 xs[k].qu, .int .i64 xs[k].de, .int .i64 xs[k].ho] rfl rfl (row_new _ [_, _, _, _, _] _) (iv_cell [xs[k].ki, xs[k].sc, xs[k].qu, xs[k].de, xs[k].ho]) (by unfold maxLen; omega) (by omega) (by have := B2.out.size; first | omega | (simp; omega)) ?_; intro v' w3 hown' hgrow _ hblk; obtain ⟨g', cap', rfl⟩ := ownsRow_succ hown'; have HO := Lib.hid hown'; have HG := Lib.hid hgrow; have HBK := Lib.hid hblk; clear hown' hgrow hblk)
        | (at_mapUpdate; refine wpList_mapUpdate_own _ rfl _ _ _ 78 rfl 2 27 (int_keyed Tryd.underlying2) Tryd.underlying78 RG w.heap.size k D rfl (G2.out.own3 HM.out ((Below.refl _ _).alloc (Nat.le_refl _) _) HG.out) (by unfold maxLen; omega) _ _ _ rfl rfl (keyOf_int_mk Tryd.underlying2 HQ.out) _ [] (RG_en (g', n0 + 1, cap')) ?_; intro w4 hown4 hgrow4; have HO4 := Lib.hid hown4; have HG4 := Lib.hid hgrow4; clear hown4 hgrow4))
      have B3 := Lib.hid ((B2.out.alloc B2.out.size (.cells #[.int .i64 xs[k].ki, .int .i64 xs[k].sc, .int .i64 xs[k].qu, .int .i64 xs[k].de, .int .i64 xs[k].ho] 35)).grown HG.out (by have := B2.out.size; simp; omega) (fun j hj => (World.ownsRow.lt HR.out j hj).1))
      have B4 := Lib.hid (B3.out.grown HG4.out B3.out.size (fun j hj => by cases hj; exact Nat.le_refl _))
      have X4 := Lib.hid (G2.out.put (e' := (g', n0 + 1, cap')) HM.out ((Below.refl _ _).alloc (Nat.le_refl _) _) HO.out HG.out HBK.out HO4.out HG4.out)
      exact ⟨⟨k + 1, _, _, by omega, by go_num, X4, Lib.hid (HST.out _ _ _ HM.out rfl), B4⟩, by simp only [intOf]; omega⟩
    · have hltz : ¬ (k : Int) < (xs.length : Int) := by omega
      have hkn : k = xs.length := by omega
      subst hkn
      go_wp2
      exact bodyPost_ret (v := .map (some w.heap.size)) (by simp [results, Tryd.results70, go_sem]) rfl ⟨rfl, D, M, hX.out, by have := hN.out; rwa [List.take_length] at this, hbw.out⟩
end Go.Proofs.YteileaeeiejonaaDoor

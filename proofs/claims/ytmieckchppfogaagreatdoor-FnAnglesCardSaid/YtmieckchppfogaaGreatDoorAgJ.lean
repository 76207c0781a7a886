/-
  A mass that runs along a path: how high its line is above the ground, and what it is made of (chapter 14). No condition of its own.
-/
import Derived.Test.YtmieckchppfogaaGreatDoorAgI
import Derived.Test.YtmieckchppfogaaGreatDoorIntG
import Derived.Laws.AppendOwn
namespace Go.Proofs.YtmieckchppfogaaGreatDoor
open Go.RowKit Go.Shelf
set_option linter.unusedVariables false
set_option maxRecDepth 100000

/-- a slice of points that is a row of somebody's own -/
def PpAt (w : World) (v : Value) (xs : List Pth) : Prop := ∃ B b cap, v = .slice (some ⟨b, 0, none⟩) xs.length cap ∧ PpOwn B w v xs
theorem PpAt.sl {w : World} {v : Value} {xs : List Pth} (h : PpAt w v xs) : PpSl w v xs := by obtain ⟨B, b, cap, rfl, ho⟩ := h; exact ho.sl
theorem PpAt.below {w w1 : World} {v : Value} {xs : List Pth} (h : PpAt w v xs) (hb : Below w.heap.size w w1) : PpAt w1 v xs := by obtain ⟨B, b, cap, rfl, ho⟩ := h; exact ⟨B, b, cap, rfl, ho.belowAll hb⟩
theorem own_capP {B : Nat} {w : World} {g cap n : Nat} {xs : List Value} {e : TypeId} {size : Nat} (h : w.ownsRow B e size (.slice (some ⟨g, 0, none⟩) n cap) n xs) : n ≤ cap := by
  rcases h.2 with ⟨h', _⟩ | ⟨g', cap', cur, h', _, _, hn, _⟩
  · simp at h'
  · simp only [Value.slice.injEq] at h'
    omega
theorem PpAt.pts {w : World} {v : Value} {xs : List Pth} (h : PpAt w v xs) (h0 : 0 < xs.length) : ∃ b cap, v = .slice (some ⟨b, 0, none⟩) xs.length cap ∧ xs.length ≤ cap ∧ PtAt w b 0 xs := by
  obtain ⟨B, b, cap, rfl, ho⟩ := h
  obtain ⟨b', off', cap', hn, P⟩ := ho.sl.pts h0
  simp only [Value.slice.injEq, Option.some.injEq, Addr.mk.injEq] at hn
  obtain ⟨⟨rfl, rfl, -⟩, -, rfl⟩ := hn
  exact ⟨b, cap, rfl, own_capP ho, P⟩
namespace An
/-- the ends of legs -/
def es (xs : List Pth) (k : Nat) : List Int := 1 :: (List.range k).map (fun j => (nd xs (j + 1)).di)
theorem es_s (xs : List Pth) (k : Nat) : es xs (k + 1) = es xs k ++ [(nd xs (k + 1)).di] := by unfold es; rw [List.range_succ, List.map_append]; rfl
theorem es_len (xs : List Pth) (k : Nat) : (es xs k).length = k + 1 := by unfold es; simp
theorem es_at {xs : List Pth} {k j : Nat} (h : j < (es xs k).length) : (es xs k)[j] = ed xs j := by
  unfold ed
  cases j with
  | zero => rfl
  | succ j => rw [if_neg (by omega)]; simp [es]
end An
set_option maxHeartbeats 1600000 in
theorem above_any (w : World) (b off cap : Nat) (xs : List Pth) (u : Value) (P : PtAt w b off xs) (o : An.Ok xs) (t d : Int) (t1 : 0 ≤ t) (t2 : t ≤ 3000) (h0 : 0 ≤ d) (h1 : d ≤ An.la xs) :
    Calls Tryz.prog 45 #[.agg #[.iface 59 (.agg #[.int .i64 (1000 * (An.nd xs 0).he), .int .i64 t]), .iface 57 (.slice (some ⟨b, off, none⟩) xs.length cap), u], .int .i64 d] w fun e w' => e = .returned (.int .i64 (An.hi xs t d)) ∧ Below w.heap.size w w' := by
  have hla := o.last
  have n2 := o.n2
  have f3 := o.hl 0 (by omega)
  have f5 := o.h9 0 (by omega)
  have hm1 : ∀ w : World, (method 277 59 (.agg #[.int .i64 (1000 * (An.nd xs 0).he), .int .i64 t]) "loop.example/g01013/impl.heightAt").run Tryz.prog w = .ok (28, .agg #[.int .i64 (1000 * (An.nd xs 0).he), .int .i64 t]) w := fun _ => by kernel_rfl
  have hm2 : ∀ w : World, (method 277 57 (.slice (some ⟨b, off, none⟩) xs.length cap) "loop.example/g01013/impl.heightAt").run Tryz.prog w = .ok (26, .slice (some ⟨b, off, none⟩) xs.length cap) w := fun _ => by kernel_rfl
  obtain ⟨W1, hW1⟩ : ∃ W, W = w.alloc (.cells #[.iface 59 (.agg #[.int .i64 (1000 * (An.nd xs 0).he), .int .i64 t]), .iface 57 (.slice (some ⟨b, off, none⟩) xs.length cap), u] 52) := ⟨_, rfl⟩
  have K0 : Whole W1 w.heap.size 52 #[.iface 59 (.agg #[.int .i64 (1000 * (An.nd xs 0).he), .int .i64 t]), .iface 57 (.slice (some ⟨b, off, none⟩) xs.length cap), u] := by rw [hW1]; exact Whole.new _ _ _
  have HB : Hid (Below w.heap.size w W1) := Lib.hid (by rw [hW1]; exact (Below.refl _ _).alloc (Nat.le_refl _) _)
  have K := Lib.hid (fun W (hb : Below W1.heap.size W1 W) => (⟨(K0.all hb).at_ 0, (K0.all hb).at_ 1⟩ : W.cell? ⟨w.heap.size, 0, none⟩ = some (.iface 59 (.agg #[.int .i64 (1000 * (An.nd xs 0).he), .int .i64 t])) ∧ W.cell? ⟨w.heap.size, 1, none⟩ = some (.iface 57 (.slice (some ⟨b, off, none⟩) xs.length cap))))
  have CE := Lib.hid (fun W => lineHeight_any (1000 * (An.nd xs 0).he) t d W (by omega) (by omega) t1 t2 h0 (by omega))
  have CG := Lib.hid (fun W (hb : Below W1.heap.size W1 W) => groundHeight_any W b off cap xs (P.below (bt HB.out hb)) o d h0 h1)
  have hbd := An.hi_bd o (t := t) (d := d) t1 t2 h0 h1
  have EH : Hid (1000 * (An.nd xs 0).he - t * d - An.gr xs d = An.hi xs t d) := Lib.hid rfl
  have w1h : IntKind.i64.wrap (1000 * (An.nd xs 0).he - t * d - An.gr xs d) = An.hi xs t d := by rw [EH.out]; exact wrap_in (by omega) (by omega)
  obtain ⟨k0, k1⟩ := K.out W1 (Below.refl _ _)
  clear P o h0 h1 t1 t2 hla K0 EH hbd
  generalize 1000 * (An.nd xs 0).he - t * d = le at *
  generalize An.gr xs d = g at *
  generalize An.hi xs t d = hh at *
  go_enter Tryz.func45, Tryz.ntmps45
  go_wp2_with fail
  rw [← hW1]
  clear hW1
  go_region_held3 (fun w' => w'.cell? ⟨w.heap.size, 0, none⟩ = some (.iface 59 (.agg #[.int .i64 (1000 * (An.nd xs 0).he), .int .i64 t])) ∧ w'.cell? ⟨w.heap.size, 1, none⟩ = some (.iface 57 (.slice (some ⟨b, off, none⟩) xs.length cap))) (go_keep)
    (first
      | (go_at_call 28; refine (CE.out _).mono ?_; rintro e wA ⟨rfl, bA⟩; have bA0 : Below W1.heap.size W1 wA := (by first | exact bt bB0 bA | exact bt (below_drewW _ 1) bA); obtain ⟨a0, a1⟩ := K.out wA bA0)
      | (go_at_call 26; refine (CG.out _ (by first | exact bA0 | exact below_drewW _ 1)).mono ?_; rintro e wB ⟨rfl, bB⟩; have bB0 : Below W1.heap.size W1 wB := (by first | exact bt bA0 bB | exact bt (below_drewW _ 1) bB); obtain ⟨b0, b1⟩ := K.out wB bB0))
  all_goals
    go_wp2_with fail
    go_ret
    first
      | exact ⟨rfl, bt HB.out bB0⟩
      | exact ⟨rfl, bt HB.out bA0⟩
set_option maxHeartbeats 3200000 in
theorem slideOf_any (w : World) (b cap : Nat) (xs : List Pth) (P : PtAt w b 0 xs) (hcap : xs.length ≤ cap) (o : An.Ok xs) (t : Int) :
    Calls Tryz.prog 21 #[.slice (some ⟨b, 0, none⟩) xs.length cap, .int .i64 t] w fun e w' => ∃ u, e = .returned (.agg #[.iface 59 (.agg #[.int .i64 (1000 * (An.nd xs 0).he), .int .i64 t]), .iface 57 (.slice (some ⟨b, 0, none⟩) xs.length cap), u]) ∧ Own w.heap.size w' u (An.es xs (xs.length - 1)) ∧ Below w.heap.size w w' := by
  obtain ⟨i0, hi, hz0, hz1, hz2⟩ := info_parts info_i64
  have n2 := o.n2
  have n24 := o.n24
  have HP := Lib.hid (fun W (hb : Below w.heap.size w W) => PtAt.below P hb)
  have CE := Lib.hid (fun W (hb : Below w.heap.size w W) => energyLineOf_any W b 0 cap xs (P.below hb) o t)
  have hz : (1 : Int) ≤ (xs.length : Int) := by omega
  clear P o
  go_enter Tryz.func21, Tryz.ntmps21
  go_wp2_with fail
  have S0 : Hid (Whole ((w.alloc (.cells #[.nilIface, .nilIface, .slice none 0 0] 52)).alloc (.cells #[.int .i64 1] 2)) w.heap.size 52 #[.nilIface, .nilIface, .slice none 0 0]) := Lib.hid (Whole.alloc (Whole.new _ _ _) _)
  have O0 : Hid (Own (w.heap.size + 1) ((w.alloc (.cells #[.nilIface, .nilIface, .slice none 0 0] 52)).alloc (.cells #[.int .i64 1] 2)) (.slice (some ⟨w.heap.size + 1, 0, none⟩) 1 1) (An.es xs 0)) := Lib.hid (by
    have h := World.ownsRow_lit (base := w.heap.size + 1) (e := 2) (size := 1) (w.alloc (.cells #[.nilIface, .nilIface, .slice none 0 0] 52)) #[.int .i64 1] 1 (by simp) (by decide) rfl
    have e : (w.alloc (.cells #[.nilIface, .nilIface, .slice none 0 0] 52)).heap.size = w.heap.size + 1 := by simp
    rw [e] at h
    exact h)
  have B0 : Hid (Below w.heap.size w ((w.alloc (.cells #[.nilIface, .nilIface, .slice none 0 0] 52)).alloc (.cells #[.int .i64 1] 2))) := Lib.hid (((Below.refl w.heap.size w).alloc (Nat.le_refl _) _).alloc (by simp) _)
  have Z0 : Hid (w.heap.size + 1 ≤ ((w.alloc (.cells #[.nilIface, .nilIface, .slice none 0 0] 52)).alloc (.cells #[.int .i64 1] 2)).heap.size) := Lib.hid (by simp)
  go_loopw [5, 12] (fun u i wr => ∃ (k : Nat), k ≤ xs.length - 1 ∧ i = .int .i64 k ∧ Hid (Own (w.heap.size + 1) wr u (An.es xs k)) ∧ Hid (Below w.heap.size w wr) ∧ Hid (Whole wr w.heap.size 52 #[.nilIface, .nilIface, .slice none 0 0]) ∧ Hid (w.heap.size + 1 ≤ wr.heap.size)) (fun _ i _ => xs.length - (intOf i).toNat)
  case atStart => exact ⟨0, Nat.zero_le _, rfl, O0, B0, S0, Z0⟩
  case round =>
    obtain ⟨k, hk, rfl, ho, hb, hs, hzz⟩ := hrel
    clear O0 B0 S0 Z0
    by_cases hlt : k < xs.length - 1
    · have hltz : (k : Int) < ((xs.length - 1 : Nat) : Int) := by omega
      have c0 : _ := (HP.out _ hb.out (k + 1) (by omega)).1
      have c1 : _ := (HP.out _ hb.out (k + 1) (by omega)).2
      rw [show 0 + (k + 1) * 2 = 2 + k * 2 by omega] at c0 c1
      have hlen := An.es_len xs k
      have hw : Hid (An.es xs k ++ [(An.nd xs (k + 1)).di] = An.es xs (k + 1)) := Lib.hid (An.es_s xs k).symm
      obtain ⟨w2, hw2⟩ : ∃ W, W = wr.alloc (.cells #[.int .i64 (An.nd xs (k + 1)).di, .int .i64 (An.nd xs (k + 1)).he] 36) := ⟨_, rfl⟩
      have O2 : Hid (Own (w.heap.size + 1) w2 _ (An.es xs k)) := Lib.hid (by rw [hw2]; exact own_belowAll ho.out ((Below.refl _ _).alloc (Nat.le_refl _) _))
      have B2 : Hid (Below w.heap.size w w2) := Lib.hid (by rw [hw2]; exact hb.out.alloc hb.out.size _)
      have S2 : Hid (Whole w2 w.heap.size 52 #[.nilIface, .nilIface, .slice none 0 0]) := Lib.hid (by rw [hw2]; exact hs.out.alloc _)
      have Z2 : Hid (w.heap.size + 1 ≤ w2.heap.size) := Lib.hid (by rw [hw2]; have := hzz.out; simp; omega)
      subst hw2
      generalize (An.nd xs (k + 1)).di = d at *
      generalize (An.nd xs (k + 1)).he = y at *
      clear ho hb hs hzz
      go_wp2_with (at_builtin; refine wpList_append_own _ rfl _ _ 50 rfl (w.heap.size + 1) 2 i0 (.int .i64 0) 1 8 Tryz.underlying50 hi hz0 hz1 hz2 rfl (by decide) _ _ _ rfl (own_belowAll O2.out ((Below.refl _ _).alloc (Nat.le_refl _) _)) ⟨wr.heap.size + 1, 0, none⟩ 1 1 [.int .i64 d] rfl rfl (by simpa using row_new (wr.alloc (.cells #[.int .i64 d, .int .i64 y] 36)) [.int .i64 d] 2) (iv_cell [d]) ?c3 ?c4 ?c5 ?_)
      case c3 => unfold maxLen; omega
      case c4 => omega
      case c5 => have := Z2.out; first | omega | (simp at *; omega)
      intro v' w3 hown' hgrow _
      have hnx : Hid (Own (w.heap.size + 1) w3 v' (An.es xs (k + 1))) := Lib.hid (by rw [← hw.out]; unfold Own; rw [iv_append, List.length_append, hlen]; exact hown')
      have hnb : Hid (Below w.heap.size w w3) := Lib.hid ((B2.out.alloc B2.out.size _).grown hgrow (by have := B2.out.size; simp at this ⊢; omega) (fun j hj => Nat.le_trans (Nat.le_succ _) (O2.out.lt j hj).1))
      have hns : Hid (Whole w3 w.heap.size 52 #[.nilIface, .nilIface, .slice none 0 0]) := Lib.hid ((S2.out.alloc _).grow hgrow (fun j hj => by have := (O2.out.lt j hj).1; omega))
      have hnz : Hid (w.heap.size + 1 ≤ w3.heap.size) := Lib.hid (by have := hgrow.size; have := Z2.out; simp at *; omega)
      clear hown' hgrow O2 B2 S2 Z2
      go_wp2
      exact ⟨⟨k + 1, by omega, by go_num, hnx, hnb, hns, hnz⟩, by simp only [intOf]; omega⟩
    · have hltz : ¬ (k : Int) < ((xs.length - 1 : Nat) : Int) := by omega
      have hkn : k = xs.length - 1 := by omega
      have C1 := Lib.hid (CE.out _ hb.out)
      have ho2 : Hid (Own (w.heap.size + 1) wr _ (An.es xs (xs.length - 1))) := Lib.hid (by rw [← hkn]; exact ho.out)
      clear hkn ho
      obtain ⟨a5, cap5, hu5⟩ := ho2.out.sl.form
      subst hu5
      go_wp2_with fail
      refine C1.out.mono ?_
      rintro e w1 ⟨rfl, b1⟩
      have O1 := Lib.hid (own_belowAll ho2.out b1)
      have B1 := Lib.hid (bt hb.out b1)
      have S1 := hs.out.all b1
      have f0 := S1.free 0
      have f1 := S1.free 1
      have f2 := S1.free 2
      have k0 := S1.at_ 0
      have k1 := S1.at_ 1
      have k2 := S1.at_ 2
      clear b1
      go_wp2_with fail
      have G3 := only_setCell (only_setCell (only_setCell (only_of_below (Below.refl w1.heap.size w1) (some w.heap.size)) (p := ⟨w.heap.size, 0, none⟩) rfl (.iface 59 (.agg #[.int .i64 (1000 * (An.nd xs 0).he), .int .i64 t]))) (p := ⟨w.heap.size, 1, none⟩) rfl (.iface 57 (.slice (some ⟨b, 0, none⟩) xs.length cap))) (p := ⟨w.heap.size, 2, none⟩) rfl (.slice a5 (An.es xs (xs.length - 1)).length cap5)
      have S3 : Whole (((w1.setCell ⟨w.heap.size, 0, none⟩ (.iface 59 (.agg #[.int .i64 (1000 * (An.nd xs 0).he), .int .i64 t]))).setCell ⟨w.heap.size, 1, none⟩ (.iface 57 (.slice (some ⟨b, 0, none⟩) xs.length cap))).setCell ⟨w.heap.size, 2, none⟩ (.slice a5 (An.es xs (xs.length - 1)).length cap5)) w.heap.size 52 #[(.iface 59 (.agg #[.int .i64 (1000 * (An.nd xs 0).he), .int .i64 t])), (.iface 57 (.slice (some ⟨b, 0, none⟩) xs.length cap)), (.slice a5 (An.es xs (xs.length - 1)).length cap5)] := by simpa using ((S1.put 0 (.iface 59 (.agg #[.int .i64 (1000 * (An.nd xs 0).he), .int .i64 t]))).put 1 (.iface 57 (.slice (some ⟨b, 0, none⟩) xs.length cap))).put 2 (.slice a5 (An.es xs (xs.length - 1)).length cap5)
      have O3 := Lib.hid ((own_far O1.out G3 (Nat.lt_succ_self _)))
      have B3 := Lib.hid (below_only B1.out G3 (Nat.le_refl _) B1.out.size)
      have q0 := S3.at_ 0
      have q1 := S3.at_ 1
      have q2 := S3.at_ 2
      clear G3 S3 S1 k0 k1 k2 f0 f1 f2 O1 B1
      generalize ((w1.setCell ⟨w.heap.size, 0, none⟩ (.iface 59 (.agg #[.int .i64 (1000 * (An.nd xs 0).he), .int .i64 t]))).setCell ⟨w.heap.size, 1, none⟩ (.iface 57 (.slice (some ⟨b, 0, none⟩) xs.length cap))).setCell ⟨w.heap.size, 2, none⟩ (.slice a5 (An.es xs (xs.length - 1)).length cap5) = W3 at *
      have O4 : Hid (Own w.heap.size W3 (.slice a5 (An.es xs (xs.length - 1)).length cap5) (An.es xs (xs.length - 1))) := Lib.hid (Go.Joins.ownsRow_le O3.out (Nat.le_succ _))
      clear O3
      generalize (An.es xs (xs.length - 1)).length = n5 at *
      exact bodyPost_ret (v := .agg #[(.iface 59 (.agg #[.int .i64 (1000 * (An.nd xs 0).he), .int .i64 t])), (.iface 57 (.slice (some ⟨b, 0, none⟩) xs.length cap)), .slice a5 n5 cap5]) (by simp [results, Tryz.results21, go_sem, q0, q1, q2]) rfl ⟨_, rfl, O4.out, B3.out⟩
end Go.Proofs.YtmieckchppfogaaGreatDoor

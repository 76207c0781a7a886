import Derived.Test.YtaldmdammipfjaaDoorTab
import Derived.Test.YtaldmdammipfjaaDoorInts
import Derived.Laws.Concat
namespace Go.Proofs.YtaldmdammipfjaaDoor
open Go.RowKit
set_option linter.unusedVariables false

/-- is a number a value of chapter 1? -/
def okV (x : Int) : Bool := Ar.inB (-1000000000000) x 1000000000000
def fitB (zs : List Int) : Bool := zs.all okV && decide (zs.length ≤ 64)
theorem okV_bd {x : Int} (h : okV x = true) : -1000000000000 ≤ x ∧ x ≤ 1000000000000 := by unfold okV Ar.inB at h; simpa using h
theorem all_take_okf {zs : List Int} {k : Nat} (h : k < zs.length) (hf : okV zs[k] = false) : fitB zs = false := by
  have : zs.all okV = false := by
    rw [List.all_eq_false]; exact ⟨zs[k], List.getElem_mem h, by simp [hf]⟩
  unfold fitB; rw [this]; rfl
theorem take_all_succ {zs : List Int} {k : Nat} (h : k < zs.length) (hp : (zs.take k).all okV = true) (hv : okV zs[k] = true) : (zs.take (k + 1)).all okV = true := by
  rw [List.take_succ_eq_append_getElem h, List.all_append, hp]; simp [hv]

/-- the texts of the first k numbers with commas between them -/
def pre (zs : List Int) (k : Nat) : List UInt8 := Lib.join ((zs.take k).map Lib.itoa) [44]
/-- the text of a list -/
def lt (zs : List Int) : List UInt8 := if zs.length = 0 then [45] else pre zs zs.length
theorem join_snoc (sep : List UInt8) : ∀ (xs : List (List UInt8)) (x : List UInt8), xs ≠ [] → Lib.join (xs ++ [x]) sep = Lib.join xs sep ++ sep ++ x := by
  intro xs x h
  match xs, h with
  | y :: r, _ =>
    rw [List.cons_append, Lib.join_cons, Lib.join_cons]
    simp [Lib.joinTail, List.append_assoc]
theorem pre_zero (zs : List Int) : pre zs 0 = [] := rfl
theorem pre_one {zs : List Int} (h : 0 < zs.length) : pre zs 1 = Lib.itoa zs[0] := by
  unfold pre; rw [List.take_succ_eq_append_getElem h]; simp [Lib.join_one]
theorem pre_succ {zs : List Int} {k : Nat} (h : k < zs.length) (hk : 0 < k) : pre zs (k + 1) = pre zs k ++ [44] ++ Lib.itoa zs[k] := by
  unfold pre
  rw [List.take_succ_eq_append_getElem h, List.map_append, List.map_cons, List.map_nil, join_snoc]
  intro hc
  have := congrArg List.length hc
  rw [List.length_map, List.length_take] at this
  simp only [List.length_nil] at this; omega
theorem itoa_len {x : Int} (h1 : -9223372036854775808 ≤ x) (h2 : x ≤ 9223372036854775807) : (Lib.itoa x).length ≤ 20 := by
  rcases Int.lt_trichotomy x 0 with h | h | h
  · rw [itoa_neg h, List.length_cons]; have := dgs_bd h1 h2; omega
  · subst h; rw [itoa_zero]; decide
  · rw [itoa_pos h]; have := dgs_bd h1 h2; omega
theorem str_app (S : ByteArray) (l : List UInt8) : (S ++ ⟨l.toArray⟩ : ByteArray).data.toList = S.data.toList ++ l := by simp
theorem sz_mk (l : List UInt8) : (⟨l.toArray⟩ : ByteArray).size = l.length := by show l.toArray.size = _; simp
theorem bytes_eq {S : ByteArray} {l : List UInt8} (h : S.data.toList = l) : S = ⟨l.toArray⟩ := by rw [← h]

set_option maxHeartbeats 1600000 in
theorem l01List_any (w : World) (v : Value) (zs : List Int) (hv : Sl w v zs) (hl : zs.length ≤ 64) (hf : ∀ x ∈ zs, -9223372036854775808 ≤ x ∧ x ≤ 9223372036854775807) :
    Calls Tryd.prog 90 #[v] w fun e w' => e = .returned (.string ⟨(lt zs).toArray⟩) ∧ Below w.heap.size w w' := by
  obtain ⟨a, cap, rfl⟩ := hv.form
  have HV := Lib.hid hv
  have HF := Lib.hid hf
  clear hv hf
  by_cases hz : zs.length = 0
  · have hlt : Hid (lt zs = [45]) := Lib.hid (by unfold lt; rw [if_pos hz])
    have hz' : ((zs.length : Int) == 0) = true := beq_iff_eq.2 (by omega)
    clear hz
    go_enter Tryd.func90, Tryd.ntmps90
    go_wp2
    go_ret
    exact ⟨by rw [hlt.out]; rfl, Below.refl _ _⟩
  · have hz' : ((zs.length : Int) == 0) = false := beq_eq_false_iff_ne.2 (by omega)
    have hlt : Hid (lt zs = pre zs zs.length) := Lib.hid (by unfold lt; rw [if_neg hz])
    go_enter Tryd.func90, Tryd.ntmps90
    go_wp2
    go_loopw [3, 4] (fun s i wr => ∃ (k : Nat) (S : ByteArray), k ≤ zs.length ∧ i = .int .i64 k ∧ s = .string S ∧ S.size ≤ 21 * k ∧ Hid (S.data.toList = pre zs k) ∧ Hid (Below w.heap.size w wr)) (fun _ i _ => zs.length - (intOf i).toNat)
    case atStart => exact ⟨0, ⟨#[]⟩, Nat.zero_le _, rfl, rfl, Nat.zero_le _, Lib.hid rfl, Lib.hid (Below.refl _ _)⟩
    case round =>
      obtain ⟨k, S, hk, rfl, rfl, hS, hp, hb⟩ := hrel
      by_cases hlt2 : k < zs.length
      · rcases HV.out with ⟨hzz, -⟩ | ⟨b, off, cap', hn, hbl, hc⟩
        · rw [hzz] at hlt2; simp at hlt2
        · simp only [Value.slice.injEq] at hn
          obtain ⟨rfl, -, rfl⟩ := hn
          have c1 : wr.cell? ⟨b, off + k, none⟩ = some (.int .i64 zs[k]) := (hb.out.cell (p := ⟨b, off + k, none⟩) hbl).trans (hc k _ (List.getElem?_eq_getElem hlt2))
          obtain ⟨b1, b2⟩ := HF.out zs[k] (List.getElem_mem hlt2)
          have hlen := itoa_len b1 b2
          have C := Lib.hid (fun W => l01Dec_any zs[k] W b1 b2)
          have HB := hb.out.size
          clear hc
          rcases Nat.eq_zero_or_pos k with hk0 | hk0
          · have hn : Hid ((S ++ ⟨(Lib.itoa zs[k]).toArray⟩ : ByteArray).data.toList = pre zs (k + 1)) := Lib.hid (by
              rw [str_app, hp.out]; subst hk0; rw [pre_zero, pre_one]; rfl)
            have hk1 : ¬ (0 : Int) < k := by omega
            generalize Lib.itoa zs[k] = t at *
            generalize zs[k] = x at *
            clear hp b1 b2 hk0
            go_wp2_with fail
            refine (C.out _).mono ?_
            rintro e w1 ⟨rfl, hb1⟩
            go_wp2_with fail
            exact ⟨⟨k + 1, _, by omega, by go_num, rfl, by rw [ByteArray.size_append, sz_mk t]; omega, hn, Lib.hid (hb.out.trans (hb1.mono HB))⟩, by simp only [intOf]; omega⟩
          · have hn : Hid ((S ++ ⟨#[44]⟩ ++ ⟨(Lib.itoa zs[k]).toArray⟩ : ByteArray).data.toList = pre zs (k + 1)) := Lib.hid (by
              rw [str_app, pre_succ hlt2 hk0, ← hp.out]; simp)
            have hk1 : (0 : Int) < k := by omega
            generalize Lib.itoa zs[k] = t at *
            generalize zs[k] = x at *
            clear hp b1 b2 hk0
            go_wp2_with fail
            refine (C.out _).mono ?_
            rintro e w1 ⟨rfl, hb1⟩
            go_wp2_with fail
            exact ⟨⟨k + 1, _, by omega, by go_num, rfl, by rw [ByteArray.size_append, ByteArray.size_append, sz_mk t, show (⟨#[44]⟩ : ByteArray).size = 1 from rfl]; omega, hn, Lib.hid (hb.out.trans (hb1.mono HB))⟩, by simp only [intOf]; omega⟩
      · have hkz : k = zs.length := by omega
        have hS' : Hid (S = ⟨(lt zs).toArray⟩) := Lib.hid (bytes_eq (by rw [hp.out, hlt.out, hkz]))
        clear hkz
        go_wp2
        go_ret
        exact ⟨by rw [← hS'.out]; rfl, hb.out⟩
/-- what ListText answers -/
def ltext (zs : List Int) : List UInt8 := if fitB zs = true then lt zs else []
theorem fit_len {zs : List Int} (h : fitB zs = true) : zs.length ≤ 64 := by
  unfold fitB at h; rw [Bool.and_eq_true] at h; simpa using h.2
theorem fit_bd {zs : List Int} (h : fitB zs = true) : ∀ x ∈ zs, -9223372036854775808 ≤ x ∧ x ≤ 9223372036854775807 := by
  intro x hx
  unfold fitB at h; rw [Bool.and_eq_true, List.all_eq_true] at h
  have := okV_bd (h.1 x hx)
  omega
theorem ownsRow_belowAll {B : Nat} {w w1 : World} {e : TypeId} {size : Nat} {v : Value} {n : Nat} {xs : List Value} (h : w.ownsRow B e size v n xs) (hb : Below w.heap.size w w1) : w1.ownsRow B e size v n xs := by
  refine ⟨h.1, ?_⟩
  rcases h.2 with h' | ⟨g, cap, cur, hv, hB, hg, rest⟩
  · exact Or.inl h'
  · have hlt : g < w.heap.size := (Array.getElem?_eq_some_iff.1 hg).1
    exact Or.inr ⟨g, cap, cur, hv, hB, (hb.block g hlt).trans hg, rest⟩
/-- texts as cells -/
def tv (l : List ByteArray) : List Value := l.map Value.string
/-- the texts of the first k numbers -/
def its (zs : List Int) (k : Nat) : List ByteArray := (zs.take k).map fun x => ⟨(Lib.itoa x).toArray⟩
theorem its_snoc {zs : List Int} {k : Nat} (h : k < zs.length) : its zs (k + 1) = its zs k ++ [⟨(Lib.itoa zs[k]).toArray⟩] := by
  unfold its; rw [List.take_succ_eq_append_getElem h, List.map_append]; rfl
theorem its_length {zs : List Int} {k : Nat} (h : k ≤ zs.length) : (its zs k).length = k := by unfold its; simp; omega
theorem info_str : (Tryd.prog.info? 9).map (fun i => (i.zero, i.size, i.bytes)) = some (some (.string ⟨#[]⟩), 1, 16) := by kernel_rfl
theorem one_str (s : ByteArray) : ∀ u ∈ [Value.string s], u.oneCell' = true := by intro u hu; simp at hu; subst hu; rfl

theorem pre_its (zs : List Int) (k : Nat) : Lib.join ((its zs k).map (·.data.toList)) [44] = pre zs k := by
  unfold pre its
  rw [List.map_map]
  congr 1
theorem pre_len {zs : List Int} (hf : ∀ x ∈ zs, -9223372036854775808 ≤ x ∧ x ≤ 9223372036854775807) : ∀ k, k ≤ zs.length → (pre zs k).length ≤ 21 * k := by
  intro k
  induction k with
  | zero => intro _; rw [pre_zero]; simp
  | succ k ih =>
    intro hk
    obtain ⟨b1, b2⟩ := hf zs[k] (List.getElem_mem hk)
    have := itoa_len b1 b2
    have := ih (by omega)
    rcases Nat.eq_zero_or_pos k with h | h
    · subst h; rw [pre_one hk]; omega
    · rw [pre_succ hk h]; simp only [List.length_append, List.length_cons, List.length_nil]; omega
theorem join_any (B : Nat) (w : World) (g cap n : Nat) (xs : List ByteArray) (h : w.ownsRow B 9 1 (.slice (some ⟨g, 0, none⟩) n cap) n (tv xs)) (hx : xs.length = n) (hn : n ≤ 1048576) (hc : n ≤ cap)
    (hlen : (Lib.join (xs.map (·.data.toList)) [44]).length ≤ 140737488355328) :
    Calls Tryd.prog 94 #[.slice (some ⟨g, 0, none⟩) n cap, .string ⟨#[44]⟩] w fun e w' => e = .returned (.string ⟨(Lib.join (xs.map (·.data.toList)) [44]).toArray⟩) ∧ Below w.heap.size w w' := by
  subst hx
  refine Tryd.strings_Join g 0 cap xs ⟨#[44]⟩ w (fun j x hj => ?_) (h.lt g rfl).2 (by omega) hc hlen
  have hl : j < xs.length := (List.getElem?_eq_some_iff.1 hj).1
  rw [Nat.zero_add, h.cellAt j (by omega)]
  unfold tv; rw [List.getElem?_map, hj]; rfl
theorem own_cap {B : Nat} {w : World} {g cap n : Nat} {xs : List Value} {e : TypeId} {size : Nat} (h : w.ownsRow B e size (.slice (some ⟨g, 0, none⟩) n cap) n xs) : n ≤ cap := by
  rcases h.2 with ⟨h', _⟩ | ⟨g', cap', cur, h', _, _, hn, _⟩
  · simp at h'
  · simp only [Value.slice.injEq] at h'
    omega

set_option maxRecDepth 100000 in
set_option maxHeartbeats 3200000 in
theorem implListText_any (w : World) (v : Value) (zs : List Int) (hv : Sl w v zs) (hl : zs.length ≤ 1048576) (hp : Pow w) :
    Calls Tryd.prog 54 #[v] w fun e w' => e = .returned (.string ⟨(ltext zs).toArray⟩) ∧ Below w.heap.size w w' := by
  obtain ⟨i0, hi, hz0, hz1, hz2⟩ := info_parts info_str
  obtain ⟨a, cap, rfl⟩ := hv.form
  have HV := Lib.hid hv
  have HP := Lib.hid hp
  clear hv hp
  by_cases hlong : 64 < zs.length
  · have hlt : Hid (ltext zs = []) := Lib.hid (by unfold ltext; rw [if_neg]; intro h; have := fit_len h; omega)
    have hlong' : (64 : Int) < zs.length := by omega
    clear hlong
    go_enter Tryd.func54, Tryd.ntmps54
    go_wp2
    go_ret
    exact ⟨by rw [hlt.out]; rfl, Below.refl _ _⟩
  · have hshort : ¬ (64 : Int) < zs.length := by omega
    by_cases hz : zs.length = 0
    · have hlt : Hid (ltext zs = [45]) := Lib.hid (by
        have : zs = [] := List.eq_nil_of_length_eq_zero hz
        subst this; rfl)
      have hz' : ((zs.length : Int) == 0) = true := beq_iff_eq.2 (by omega)
      clear hz hlong
      go_enter Tryd.func54, Tryd.ntmps54
      go_wp2
      go_ret
      exact ⟨by rw [hlt.out]; rfl, Below.refl _ _⟩
    · have hz' : ((zs.length : Int) == 0) = false := beq_eq_false_iff_ne.2 (by omega)
      go_enter Tryd.func54, Tryd.ntmps54
      go_wp2_with (at_make; refine wpList_make_own _ rfl _ _ 85 rfl w.heap.size 9 i0 (.string ⟨#[]⟩) 1 Tryd.underlying85 hi hz0 hz1 .i64 .i64 _ zs.length rfl rfl rfl ?c1 ?c2 ?c3 ?_)
      case c1 => first | omega | (rw [hz2]; omega)
      case c2 => unfold maxLen; omega
      intro w1 hown hg
      have HO := Lib.hid hown
      have HB : Hid (Below w.heap.size w w1) := Lib.hid ((Below.refl _ w).grown hg (Nat.le_refl _) (fun k hk => by cases hk))
      clear hown hg
      go_wp2
      go_loopw [3, 17] (fun pv i wr => ∃ k : Nat, k ≤ zs.length ∧ i = .int .i64 k ∧ Hid (wr.ownsRow w.heap.size 9 1 pv k (tv (its zs k))) ∧ Hid (Below w.heap.size w wr) ∧ Hid ((zs.take k).all okV = true)) (fun _ i _ => zs.length - (intOf i).toNat)
      case atStart => exact ⟨0, Nat.zero_le _, rfl, HO, HB, Lib.hid rfl⟩
      case round =>
        obtain ⟨k, hk, rfl, ho, hb, hall⟩ := hrel
        by_cases hlt2 : k < zs.length
        · rcases HV.out with ⟨hzz, -⟩ | ⟨b, off, cap', hn, hbl, hc⟩
          · rw [hzz] at hlt2; simp at hlt2
          · simp only [Value.slice.injEq] at hn
            obtain ⟨rfl, -, rfl⟩ := hn
            have c1 : wr.cell? ⟨b, off + k, none⟩ = some (.int .i64 zs[k]) := (hb.out.cell (p := ⟨b, off + k, none⟩) hbl).trans (hc k _ (List.getElem?_eq_getElem hlt2))
            have hst := Lib.hid (take_all_succ hlt2 hall.out)
            have hno := Lib.hid (all_take_okf hlt2)
            have hsn := Lib.hid (its_snoc hlt2)
            have hbs := hb.out.size
            clear hc
            generalize zs[k] = x at *
            by_cases hx : okV x = true
            · have hn := Lib.hid (hst.out hx)
              have hx' : Ar.inB (-1000000000000) x 1000000000000 = true := hx
              obtain ⟨x1, x2⟩ := okV_bd hx
              clear hx hst hno
              go_wp2_with (go_at_call 93; refine (isValue_any _ _).mono ?_; rintro e w' ⟨rfl, rfl⟩)
              refine (implDecimal_any x wr (by omega) (by omega) ((HP.out.below (hb.out)))).mono ?_
              rintro e w2 ⟨rfl, hb2⟩
              have ho2 := Lib.hid (ownsRow_belowAll ho.out hb2)
              have hb3 : Hid (Below w.heap.size w w2) := Lib.hid (hb.out.trans (hb2.mono hbs))
              have hbs2 := hb3.out.size
              clear ho hb
              go_wp2_with (at_builtin; refine wpList_append_own _ rfl _ _ 85 rfl w.heap.size 9 i0 (.string ⟨#[]⟩) 1 16 Tryd.underlying85 hi hz0 hz1 hz2 rfl (by decide) _ _ _ rfl (ho2.out.alloc _) ⟨w2.heap.size, 0, none⟩ 1 1 [.string ⟨(Lib.itoa x).toArray⟩] rfl rfl (one_new _ _ _) (one_str _) ?d3 ?d4 ?d5 ?_)
              case d3 => unfold maxLen; omega
              case d4 => omega
              case d5 => first | omega | (simp; omega)
              intro v' w3 hown' hgrow _
              have hnx : Hid (w3.ownsRow w.heap.size 9 1 v' (k + 1) (tv (its zs (k + 1)))) := Lib.hid (by rw [hsn.out]; unfold tv; rw [List.map_append]; exact hown')
              have hnb : Hid (Below w.heap.size w w3) := Lib.hid ((hb3.out.alloc hbs2 _).grown hgrow (by simp; omega) (fun j hj => (ho2.out.lt j hj).1))
              clear hown' hgrow ho2
              go_wp2
              exact ⟨⟨k + 1, by omega, by go_num, hnx, hnb, hn⟩, by simp only [intOf]; omega⟩
            · have hxf : okV x = false := by simpa using hx
              have hx' : Ar.inB (-1000000000000) x 1000000000000 = false := hxf
              have hlt : Hid (ltext zs = []) := Lib.hid (by unfold ltext; rw [hno.out hxf]; rfl)
              clear hx hst hno hxf
              go_wp2_with (go_at_call 93; refine (isValue_any _ _).mono ?_; rintro e w' ⟨rfl, rfl⟩)
              go_ret
              exact ⟨by rw [hlt.out]; rfl, hb.out⟩
        · have hkz : k = zs.length := by omega
          subst hkz
          have hfit : fitB zs = true := by
            have := hall.out
            rw [List.take_length] at this
            unfold fitB; rw [this]; simp; omega
          have hlt : Hid (ltext zs = pre zs zs.length) := Lib.hid (by unfold ltext lt; rw [if_pos hfit, if_neg hz])
          have hpl := pre_len (fit_bd hfit) zs.length (Nat.le_refl _)
          obtain ⟨g, cap2, rfl⟩ := Go.Joins.ownsRow_form ho.out (by omega)
          have C := Lib.hid (join_any w.heap.size wr g cap2 zs.length (its zs zs.length) ho.out (its_length (Nat.le_refl _)) hl (own_cap ho.out) (by rw [pre_its]; omega))
          rw [pre_its] at C
          have HB2 := hb.out.size
          clear ho hpl hfit
          go_wp2_with fail
          refine C.out.mono ?_
          rintro e w2 ⟨rfl, hb2⟩
          rw [← hlt.out]
          go_wp2_with fail
          go_ret
          exact ⟨rfl, hb.out.trans (hb2.mono HB2)⟩
end Go.Proofs.YtaldmdammipfjaaDoor

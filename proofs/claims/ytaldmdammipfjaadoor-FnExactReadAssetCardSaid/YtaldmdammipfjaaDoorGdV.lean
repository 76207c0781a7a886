/-
  Grids of chapter 9: valid ones, by the program and by the model. No condition of its own.
-/
import Derived.Test.YtaldmdammipfjaaDoorGdO
import Derived.Test.YtaldmdammipfjaaDoorGw
import Derived.Test.YtaldmdammipfjaaDoorCd
import Derived.Test.YtaldmdammipfjaaDoorUnits
namespace Go.Proofs.YtaldmdammipfjaaDoor
open Go.RowKit Go.Shelf Go.Deep
set_option linter.unusedVariables false
set_option maxRecDepth 100000

theorem isSide_any (x : Int) (w : World) : Calls Tryd.prog 110 #[.int .i64 x] w fun e w' => e = .returned (.bool (Ar.inB 1 x 8)) ∧ w = w' := by
  go_enter Tryd.func110, Tryd.ntmps110
  go_wp2_with (go_at_call 79; refine (within_any _ _ _ _).mono ?_; rintro e w' ⟨rfl, rfl⟩)
  go_ret
  exact ⟨rfl, rfl⟩
theorem validHeight_any (x : Int) (w W : World) (hW : Below w.heap.size w W) : Calls Tryd.prog 111 (#[.int .i64 x] ++ #[]) W fun e w' => e = .returned (.bool (!Gw.okH x)) ∧ Below w.heap.size w w' := by
  have C := Lib.hid (within_any x 0 5000 W)
  have HW := Lib.hid hW
  have hd : Ar.inB 0 x 5000 = Gw.okH x := rfl
  rw [hd] at C
  clear hW hd
  generalize Gw.okH x = q at *
  go_enter Tryd.func111, Tryd.ntmps111
  go_wp2_with fail
  refine C.out.mono ?_
  rintro e w' ⟨rfl, rfl⟩
  go_wp2_with fail
  go_ret
  exact ⟨rfl, HW.out⟩
set_option maxHeartbeats 6400000 in
theorem l09Ok_any (w : World) (b : Nat) (r c s : Int) (v : Value) (zs : List Int) (hc : GC w b r c s v) (hv : Sl w v zs) (hl : zs.length ≤ 1048576) :
    Calls Tryd.prog 68 #[.pointer (some ⟨b, 0, none⟩)] w fun e w' => e = .returned (.bool (Gw.ok r c s zs)) ∧ Below w.heap.size w w' := by
  obtain ⟨a, cap, rfl⟩ := hv.form
  have HV := Lib.hid hv
  have HK := Lib.hid hc
  obtain ⟨c0, c1, c2, c3⟩ := hc
  clear hv
  rcases Gw.sides r c s zs.length with ⟨h1, hf⟩ | ⟨h1, h2, hf⟩ | ⟨h1, h2, h3, hf⟩ | ⟨h1, h2, h3, ⟨p1, p2⟩, h4, hf⟩ | ⟨h1, h2, h3, ⟨p1, p2⟩, h4, hf⟩
  · have hr := Lib.hid (Gw.ok_f hf)
    clear hf
    go_enter Tryd.func68, Tryd.ntmps68
    go_wp2_with fail
    go_quiet ((go_at_call 88; exact Calls.quiet_of_same ((l00In_any _ _ _ _).mono fun _ _ ⟨h, h'⟩ => ⟨h, h'.symm⟩)))
    go_wp2_with fail
    go_ret
    exact ⟨ret_bool hr.out.symm, below_drewN (Below.refl _ _) _⟩
  · have hr := Lib.hid (Gw.ok_f hf)
    clear hf
    go_enter Tryd.func68, Tryd.ntmps68
    go_wp2_with fail
    go_quiet ((go_at_call 88; exact Calls.quiet_of_same ((l00In_any _ _ _ _).mono fun _ _ ⟨h, h'⟩ => ⟨h, h'.symm⟩)))
    go_wp2_with fail
    go_ret
    exact ⟨ret_bool hr.out.symm, below_drewN (Below.refl _ _) _⟩
  · have hr := Lib.hid (Gw.ok_f hf)
    clear hf
    go_enter Tryd.func68, Tryd.ntmps68
    go_wp2_with fail
    go_quiet ((go_at_call 88; exact Calls.quiet_of_same ((l00In_any _ _ _ _).mono fun _ _ ⟨h, h'⟩ => ⟨h, h'.symm⟩)))
    go_wp2_with fail
    go_ret
    exact ⟨ret_bool hr.out.symm, below_drewN (Below.refl _ _) _⟩
  · have hr := Lib.hid (Gw.ok_f hf)
    have hwr : wrap64 (r * c) = r * c := IntWalk.wrap64_in _ ⟨by omega, by omega⟩
    clear hf
    go_enter Tryd.func68, Tryd.ntmps68
    go_wp2_with fail
    go_quiet ((go_at_call 88; exact Calls.quiet_of_same ((l00In_any _ _ _ _).mono fun _ _ ⟨h, h'⟩ => ⟨h, h'.symm⟩)))
    go_wp2_with fail
    go_ret
    exact ⟨ret_bool hr.out.symm, below_drewN (Below.refl _ _) _⟩
  · have hr := Lib.hid (Gw.ok_t hf)
    have hwr : wrap64 (r * c) = r * c := IntWalk.wrap64_in _ ⟨by omega, by omega⟩
    clear hf
    go_enter Tryd.func68, Tryd.ntmps68
    go_wp2_with fail
    go_quiet ((go_at_call 88; exact Calls.quiet_of_same ((l00In_any _ _ _ _).mono fun _ _ ⟨h, h'⟩ => ⟨h, h'.symm⟩)))
    go_wp2_with fail
    clear h1 h2 h3 h4 p1 p2 hwr c0 c1 c2
    go_loopw [3] (fun i wr => ∃ (k q : Nat), k ≤ zs.length ∧ i = .int .i64 k ∧ wr = w.drewN q ∧ Hid (Gw.okHs (zs.take k) = true)) (fun i _ => zs.length - (intOf i).toNat)
    case atStart => exact ⟨0, _, Nat.zero_le _, rfl, rfl, Lib.hid rfl⟩
    case round =>
      obtain ⟨k, q, hk, rfl, rfl, hp⟩ := hrel
      have k3 := (HK.out.drewN q).c3
      by_cases hlt : k < zs.length
      · have hltz : (k : Int) < (zs.length : Int) := by omega
        obtain ⟨b', off, cap1, hn, hbl, hcc⟩ := (HV.out.drewN q).atI hlt
        simp only [Value.slice.injEq] at hn
        obtain ⟨rfl, -, rfl⟩ := hn
        have d0 := hcc k hlt
        clear hcc
        have C := Lib.hid (l00In_any zs[k] 0 5000 (w.drewN q))
        have hd : Ar.inB 0 zs[k] 5000 = Gw.okH zs[k] := rfl
        rw [hd] at C
        clear hd
        cases hq : Gw.okH zs[k] with
        | true =>
          have hn := Lib.hid (Gw.okHs_next hlt hp.out hq)
          rw [hq] at C
          clear hq
          generalize zs[k] = z at *
          go_wp2_with fail
          refine C.out.mono ?_
          rintro e w2 ⟨rfl, rfl⟩
          go_wp2_with fail
          exact ⟨⟨k + 1, q, by omega, by go_num, rfl, hn⟩, by simp only [intOf]; omega⟩
        | false =>
          have hn := Lib.hid (Gw.okHs_no hlt hq)
          rw [hq] at C
          clear hq
          generalize zs[k] = z at *
          go_wp2_with fail
          refine C.out.mono ?_
          rintro e w2 ⟨rfl, rfl⟩
          go_wp2_with fail
          go_ret
          exact ⟨ret_bool (by rw [hr.out, hn.out]), below_drewN (Below.refl _ _) _⟩
      · have hltz : ¬ (k : Int) < (zs.length : Int) := by omega
        have hkz : k = zs.length := by omega
        have hn : Hid (Gw.okHs zs = true) := Lib.hid (by have := hp.out; rwa [hkz, List.take_length] at this)
        clear hkz
        go_wp2
        go_ret
        exact ⟨ret_bool (by rw [hr.out, hn.out]), below_drewN (Below.refl _ _) _⟩
set_option maxHeartbeats 6400000 in
theorem implValidGrid_any (w : World) (r c s : Int) (v : Value) (zs : List Int) (hv : Sl w v zs) (hl : zs.length ≤ 1048576) :
    Calls Tryd.prog 74 #[.agg #[.int .i64 r, .int .i64 c, .int .i64 s, v]] w fun e w' => e = .returned (.bool (Gw.ok r c s zs)) ∧ Below w.heap.size w w' := by
  obtain ⟨a, cap, rfl⟩ := hv.form
  have C1 := fun W => Lib.hid (isSide_any r W)
  have C2 := fun W => Lib.hid (isSide_any c W)
  have C3 := fun W => Lib.hid (within_any s 1 100 W)
  have HB := Lib.hid (boxG_below w r c s (.slice a zs.length cap) 30)
  have CF := Lib.hid (containsFuncI_any 111 #[] (enters_of Tryd.func111 (by kernel_rfl) rfl) (fun x => !Gw.okH x) (boxG w r c s (.slice a zs.length cap) 30) _ zs hl (hv.below HB.out) (fun x W hW => validHeight_any x _ W hW))
  clear hv
  rcases Gw.sidesI r c s zs.length with ⟨h1, hf⟩ | ⟨h1, h2, hf⟩ | ⟨h1, h2, h3, hf⟩ | ⟨h1, h2, h3, ⟨p1, p2⟩, h4, hf⟩ | ⟨h1, h2, h3, ⟨p1, p2⟩, h4, hf⟩
  · have hr := Lib.hid (Gw.ok_f hf)
    rw [h1] at C3
    clear h1 hf
    go_enter Tryd.func74, Tryd.ntmps74
    go_wp2_with fail
    refine (C3 _).out.mono ?_
    rintro e w1 ⟨rfl, rfl⟩
    go_wp2_with fail
    go_ret
    exact ⟨ret_bool hr.out.symm, HB.out⟩
  · have hr := Lib.hid (Gw.ok_f hf)
    rw [h1] at C3
    rw [h2] at C1
    clear h1 h2 hf
    go_enter Tryd.func74, Tryd.ntmps74
    go_wp2_with fail
    refine (C3 _).out.mono ?_
    rintro e w1 ⟨rfl, rfl⟩
    go_wp2_with fail
    refine (C1 _).out.mono ?_
    rintro e w1 ⟨rfl, rfl⟩
    go_wp2_with fail
    go_ret
    exact ⟨ret_bool hr.out.symm, HB.out⟩
  · have hr := Lib.hid (Gw.ok_f hf)
    rw [h1] at C3
    rw [h2] at C1
    rw [h3] at C2
    clear h1 h2 h3 hf
    go_enter Tryd.func74, Tryd.ntmps74
    go_wp2_with fail
    refine (C3 _).out.mono ?_
    rintro e w1 ⟨rfl, rfl⟩
    go_wp2_with fail
    refine (C1 _).out.mono ?_
    rintro e w1 ⟨rfl, rfl⟩
    go_wp2_with fail
    refine (C2 _).out.mono ?_
    rintro e w1 ⟨rfl, rfl⟩
    go_wp2_with fail
    go_ret
    exact ⟨ret_bool hr.out.symm, HB.out⟩
  · have hr := Lib.hid (Gw.ok_f hf)
    rw [h1] at C3
    rw [h2] at C1
    rw [h3] at C2
    clear h1 h2 h3 hf
    have hwr : wrap64 (r * c) = r * c := IntWalk.wrap64_in _ ⟨by omega, by omega⟩
    go_enter Tryd.func74, Tryd.ntmps74
    go_wp2_with fail
    refine (C3 _).out.mono ?_
    rintro e w1 ⟨rfl, rfl⟩
    go_wp2_with fail
    refine (C1 _).out.mono ?_
    rintro e w1 ⟨rfl, rfl⟩
    go_wp2_with fail
    refine (C2 _).out.mono ?_
    rintro e w1 ⟨rfl, rfl⟩
    go_wp2_with fail
    go_ret
    exact ⟨ret_bool hr.out.symm, HB.out⟩
  · have hr := Lib.hid (Gw.ok_t hf)
    rw [h1] at C3
    rw [h2] at C1
    rw [h3] at C2
    clear h1 h2 h3 hf
    have hwr : wrap64 (r * c) = r * c := IntWalk.wrap64_in _ ⟨by omega, by omega⟩
    have hn := Lib.hid (Gw.not_any zs)
    go_enter Tryd.func74, Tryd.ntmps74
    go_wp2_with fail
    refine (C3 _).out.mono ?_
    rintro e w1 ⟨rfl, rfl⟩
    go_wp2_with fail
    refine (C1 _).out.mono ?_
    rintro e w1 ⟨rfl, rfl⟩
    go_wp2_with fail
    refine (C2 _).out.mono ?_
    rintro e w1 ⟨rfl, rfl⟩
    go_wp2_with fail
    refine CF.out.mono ?_
    rintro e w1 ⟨rfl, b1⟩
    generalize (zs.any fun x => !Gw.okH x) = t at *
    have B1 := Lib.hid (bt HB.out b1)
    clear b1
    go_wp2_with fail
    go_ret
    exact ⟨ret_bool (by rw [hr.out, ← hn.out]), B1.out⟩
end Go.Proofs.YtaldmdammipfjaaDoor

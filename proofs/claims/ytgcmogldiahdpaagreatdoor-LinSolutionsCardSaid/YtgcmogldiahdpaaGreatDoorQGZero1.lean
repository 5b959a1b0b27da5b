/- Walks of a law. -/
import Derived.Test.YtgcmogldiahdpaaGreatDoorQHK2
import Derived.Test.YtgcmogldiahdpaaGreatDoorQHX
namespace Go.Proofs.YtgcmogldiahdpaaGreatDoor
open Go.RowKit Fm
theorem validF_len2 {n : Nat} {f : List Int × Int} (h : validF n f = true) : f.1.length = n := by
  simp only [validF, Bool.and_eq_true, decide_eq_true_eq] at h
  omega
/-- One form of a list of forms, as the law asks it. -/
theorem zeroF_take (fs : List (List Int × Int)) (xs : List (Int × Int)) (a : Nat) (h : a < fs.length) (h1 : zeroF (fs.take a) xs = true) (h2 : valQ fs[a] xs = 0) : zeroF (fs.take (a + 1)) xs = true := by
  unfold zeroF at h1 ⊢
  rw [List.take_succ_eq_append_getElem h, List.all_append, h1]
  simp [h2]
theorem zeroF_false (fs : List (List Int × Int)) (xs : List (Int × Int)) (a : Nat) (h : a < fs.length) (h2 : valQ fs[a] xs ≠ 0) : zeroF fs xs = false := by
  unfold zeroF
  rw [List.all_eq_false]
  exact ⟨fs[a], List.getElem_mem h, by simp [h2]⟩
set_option maxHeartbeats 4000000 in
set_option maxRecDepth 10000 in
theorem zero_any (A C : Option Addr) (c e n : Nat) (fs : List (List Int × Int)) (xs : List (Int × Int)) (w : World) (hn : n ≤ 8) (hl : fs.length ≤ 200) (hr : RdE eltForm w A fs) (ho : RdN w C xs) (hv : ∀ f, f ∈ fs → validF n f = true) (hxl : xs.length = n) (hok : okAll xs = true) :
    Calls Tryz.prog 39 #[.slice A fs.length c, .slice C xs.length e] w fun e w' => e = .returned (.bool (zeroF fs xs)) ∧ Up w w' := by
  have HRD := Lib.hid (And.intro hr ho)
  have HOK := Lib.hid (And.intro hok hxl)
  have HV := Lib.hid (fun f (h : f ∈ fs) => show f.1.length = n ∧ f.1.all limI = true ∧ limI f.2 = true from by
    have h9 := hv f h
    have h8 := validF_len2 h9
    simp only [validF, Bool.and_eq_true, decide_eq_true_eq] at h9
    exact ⟨h8, h9.2, h9.1.2⟩)
  clear hr ho hv hok hxl
  have HVF := Lib.hid (fun a (h : a < fs.length) (h1 : zeroF (fs.take a) xs = true) => zeroF_take fs xs a h h1)
  have HVN := Lib.hid (fun a (h : a < fs.length) => zeroF_false fs xs a h)
  go_enter Tryz.func39, Tryz.ntmps39
  go_wp2
  go_loopw [9] (fun i wr => ∃ a : Nat, a ≤ fs.length ∧ i = .int .i64 a ∧ Hid (zeroF (fs.take a) xs = true) ∧ Hid (Up w wr)) (fun i _ => fs.length - (intOf i).toNat)
  case atStart => exact ⟨0, by omega, rfl, Lib.hid rfl, Lib.hid (Up.refl _)⟩
  case round =>
    obtain ⟨a, ha, rfl, HK, HU⟩ := hrel
    by_cases hal : a < fs.length
    · obtain ⟨bf, off, Bf, cf, rfl, hbb, e0, e1, h3, h4, h5⟩ := (HRD.out.1.up HU.out).f hal
      have hvf := HV.out fs[a] (List.getElem_mem hal)
      have hb1 : ∀ y, limI y = true → -2305843009213693952 < y ∧ y < 2305843009213693952 := fun y h => by
        simp only [limI, decide_eq_true_eq] at h
        omega
      have HNX := Lib.hid (HVF.out a hal HK.out)
      have HFX := Lib.hid (HVN.out a hal)
      have HTF := Lib.hid (fun W (hu : Up wr W) => refRowTo_any Bf cf fs[a].1 fs[a].2 W (by omega) (h5.up hu) (fun y hy => hb1 y ((List.all_eq_true.1 hvf.2.1) y hy)) (by have := hb1 _ hvf.2.2; omega))
      have HRT := Lib.hid (fun W (hu : Up wr W) => refRats_any C e xs W (by have := HOK.out.2; omega) (HRD.out.2.up (HU.out.trans hu)) HOK.out.1)
      have HEVL := Lib.hid (fun W0 W1 W v A1 c1 (hu : Up W1 W) (hrow : RowQ W0 W1 v fs[a].1 fs[a].2) (hq : RdE eltQ W A1 (ratsOf xs)) => (show Calls Tryz.prog 44 #[v, .slice A1 (ratsOf xs).length c1] W fun e w' => ∃ v, e = .returned v ∧ RQ w' v (valQ fs[a] xs) ∧ Up W w' from
        refEval_row fs[a] xs n (by omega) hvf.1 HOK.out.2 hvf.2.1 hvf.2.2 HOK.out.1 W0 W1 W v A1 c1 hu hrow hq))
      have HSG := Lib.hid (fun W v (h : RQ W v (valQ fs[a] xs)) => refRatSign_any v _ _ W h)
      generalize hvq : valQ fs[a] xs = vq at *
      generalize hfa : fs[a] = f at *
      obtain ⟨zs, z⟩ := f
      simp only at e0 e1 hvf h5 HTF HEVL
      have hvz := hvf.1
      clear hvq hfa hb1 h3 h4 hvf h5
      generalize zs.length = zl at *
      clear hvz
      have i0 : (0 : Int) ≤ (a : Int) := by omega
      by_cases hz : vq = 0
      · have HT := Lib.hid (HNX.out hz)
        have hsg : vq.num.sign = 0 := by rw [hz]; rfl
        rw [hsg] at HSG
        clear hz hsg HNX HFX
        go_wp2_with fail
        have HUY := Lib.hid (Up.alloc wr (.cells #[.slice Bf zl cf, .int .i64 z] 33))
        refine Calls.mono (HTF.out _ HUY.out) ?_
        rintro e0 w5 ⟨v5, rfl, hv, hu⟩
        have HU5 := Lib.hid (HUY.out.trans hu)
        have HV5 := Lib.hid hv
        clear hu hv
        go_wp2_with fail
        refine Calls.mono (HRT.out _ HU5.out) ?_
        rintro e0 w6 ⟨A6, c6, rfl, hv, hu⟩
        have HU6 := Lib.hid (HU5.out.trans hu)
        have HUV := Lib.hid hu
        have HV6 := Lib.hid hv
        clear hu hv
        go_wp2_with fail
        refine Calls.mono (HEVL.out _ _ _ _ _ _ HUV.out HV5.out HV6.out) ?_
        rintro e0 w7 ⟨v7, rfl, hv, hu⟩
        have HU7 := Lib.hid (HU6.out.trans hu)
        have HV7 := Lib.hid hv
        clear hu hv
        go_wp2_with fail
        refine Calls.mono (HSG.out _ _ HV7.out) ?_
        rintro e0 w8 ⟨rfl, hu⟩
        have HU8 := Lib.hid (HU7.out.trans hu)
        clear hu
        go_wp2_with fail
        exact ⟨⟨a + 1, by omega, by simp, HT, Lib.hid (HU.out.trans HU8.out)⟩, by simp [intOf]; omega⟩
      · have HT := Lib.hid (HFX.out hz)
        have hsg : vq.num.sign ≠ 0 := fun h => hz (by
          have := Int.sign_eq_zero_iff_zero.1 h
          exact Rat.num_eq_zero.1 this)
        generalize vq.num.sign = sg at *
        have hsb : (sg != 0) = true := by simpa using hsg
        clear hz HNX HFX
        go_wp2_with fail
        have HUY := Lib.hid (Up.alloc wr (.cells #[.slice Bf zl cf, .int .i64 z] 33))
        refine Calls.mono (HTF.out _ HUY.out) ?_
        rintro e0 w5 ⟨v5, rfl, hv, hu⟩
        have HU5 := Lib.hid (HUY.out.trans hu)
        have HV5 := Lib.hid hv
        clear hu hv
        go_wp2_with fail
        refine Calls.mono (HRT.out _ HU5.out) ?_
        rintro e0 w6 ⟨A6, c6, rfl, hv, hu⟩
        have HU6 := Lib.hid (HU5.out.trans hu)
        have HUV := Lib.hid hu
        have HV6 := Lib.hid hv
        clear hu hv
        go_wp2_with fail
        refine Calls.mono (HEVL.out _ _ _ _ _ _ HUV.out HV5.out HV6.out) ?_
        rintro e0 w7 ⟨v7, rfl, hv, hu⟩
        have HU7 := Lib.hid (HU6.out.trans hu)
        have HV7 := Lib.hid hv
        clear hu hv
        go_wp2_with fail
        refine Calls.mono (HSG.out _ _ HV7.out) ?_
        rintro e0 w8 ⟨rfl, hu⟩
        have HU8 := Lib.hid (HU7.out.trans hu)
        clear hu
        go_wp2
        go_ret
        exact ⟨by rw [HT.out]; rfl, HU.out.trans HU8.out⟩
    · have hae : a = fs.length := by omega
      subst hae
      have HT : Hid (zeroF fs xs = true) := Lib.hid (by have := HK.out; rwa [List.take_length] at this)
      go_wp2
      go_ret
      exact ⟨by rw [HT.out]; rfl, HU.out⟩
end Go.Proofs.YtgcmogldiahdpaaGreatDoor

/- What a further law needs. -/
import Derived.Test.YtacbjbnocepnaaaGreatDoorQSA
import Derived.Test.YtacbjbnocepnaaaGreatDoorQIL
import Derived.Test.YtacbjbnocepnaaaGreatDoorQHX
import Derived.Test.YtacbjbnocepnaaaGreatDoorQIH
import Derived.Test.YtacbjbnocepnaaaGreatDoorQHW
import Derived.Test.YtacbjbnocepnaaaGreatDoorQHI
import Derived.Test.YtacbjbnocepnaaaGreatDoorQHG
import Derived.Test.YtacbjbnocepnaaaGreatDoorQGR
import Derived.Test.YtacbjbnocepnaaaGreatDoorQHT2
import Derived.Test.YtacbjbnocepnaaaGreatDoorQHL
import Derived.Test.YtacbjbnocepnaaaGreatDoorQIA
import Derived.Test.YtacbjbnocepnaaaGreatDoorQIE
import Derived.Test.YtacbjbnocepnaaaGreatDoorQHJ
import Derived.Test.YtacbjbnocepnaaaGreatDoorQHT
import Derived.Test.YtacbjbnocepnaaaGreatDoorQHR
import Derived.Deep.RegionWith
namespace Go.Proofs.YtacbjbnocepnaaaGreatDoor
open Fm
theorem mem_rowsR {n : Nat} {S : Sys} {r : List Int} : r ∈ rowsR n S ↔ ∃ c, c < n ∧ S.getD c none = some r := by
  unfold rowsR leadR
  simp only [List.mem_map, List.mem_filter, List.mem_range]
  constructor
  · rintro ⟨c, ⟨h1, h2⟩, rfl⟩
    refine ⟨c, h1, ?_⟩
    cases hp : S.getD c none with
    | none => rw [hp] at h2; cases h2
    | some p => rfl
  · rintro ⟨c, h1, h2⟩
    exact ⟨c, ⟨h1, by rw [h2]; rfl⟩, by rw [h2]; rfl⟩
theorem rows_ZS {n : Nat} {S : Sys} (h : Ech n S) (hn : S.getD n none = none) (X : Nat → Rat) : (∀ r, r ∈ rowsR n S → dotR r X = 0) ↔ ZS S X := by
  constructor
  · intro hh c r hc
    have hl := (h.2 c r hc).le
    have hcn : c ≠ n := fun e => by subst e; rw [hn] at hc; cases hc
    exact hh r (mem_rowsR.2 ⟨c, by omega, hc⟩)
  · intro hh r hr
    obtain ⟨c, -, hc⟩ := mem_rowsR.1 hr
    exact hh c r hc
theorem sysR_rows {n : Nat} (hn : n ≤ 9) {S : Sys} (h : Red n S) (hs : S.getD n none = none) : sysR n (rowsR n S) = S :=
  red_unique (sysR_red n hn _ (rows_len h.ech)) h fun X => by rw [sysR_ZS n hn X _ (rows_len h.ech), rows_ZS h.ech hs]
theorem toF_rowF {n : Nat} {S : Sys} (h : Ech n S) : ((rowsR n S).map (toF n)).map rowF = rowsR n S := by
  rw [List.map_map]
  conv => rhs; rw [← List.map_id (rowsR n S)]
  apply List.map_congr_left
  intro r hr
  exact rowF_parts r n (rows_len h r hr)
end Go.Proofs.YtacbjbnocepnaaaGreatDoor
namespace Go.Proofs.YtacbjbnocepnaaaGreatDoor
open Go.RowKit Fm
end Go.Proofs.YtacbjbnocepnaaaGreatDoor
namespace Go.Proofs.YtacbjbnocepnaaaGreatDoor
open Go.RowKit Fm
set_option maxHeartbeats 4000000 in
set_option maxRecDepth 10000 in
theorem refSameRow_any (A A2 E E2 : Option Addr) (c c2 n2 d d2 m2 : Nat) (s t : Int) (b e : Bool) (f g : List Int × Int) (w : World) (hl : g.1.length = f.1.length) (hn : f.1.length ≤ 1000000) (hr : RdE eltR w A f.1) (hx : RI w (.agg #[.int .i64 s, .bool b, .slice A2 n2 c2]) f.2) (hr2 : RdE eltR w E g.1) (hy : RI w (.agg #[.int .i64 t, .bool e, .slice E2 m2 d2]) g.2)
    (hb1 : (∀ z, z ∈ f.1 → rl z ≤ 100000) ∧ rl f.2 ≤ 100000) (hb2 : (∀ z, z ∈ g.1 → rl z ≤ 100000) ∧ rl g.2 ≤ 100000) :
    Calls Tryz.prog 68 #[.agg #[.slice A f.1.length c, .int .i64 s, .bool b, .slice A2 n2 c2], .agg #[.slice E f.1.length d, .int .i64 t, .bool e, .slice E2 m2 d2]] w fun e w' => e = .returned (.bool (decide (f = g))) ∧ Up w w' := by
  obtain ⟨fs, x⟩ := f
  obtain ⟨gs, y⟩ := g
  simp only at hl hn hr hx hr2 hy hb1 hb2 ⊢
  have HDEC : Hid (decide ((fs, x) = (gs, y)) = (decide (x = y) && decide (fs = gs))) := Lib.hid (by
    rw [Bool.eq_iff_iff]; simp [Prod.ext_iff, and_comm])
  have HCX := Lib.hid (fun W (hu : Up w W) => refCompare_any _ _ x y W (hx.up hu) (hy.up hu) (by omega) (by omega))
  have HCM := Lib.hid (fun W u v a b (h1 : RI W u a) (h2 : RI W v b) ha hb => refCompare_any u v a b W h1 h2 ha hb)
  have HB := Lib.hid (And.intro hb1.1 hb2.1)
  have HL := Lib.hid hl
  have HR := Lib.hid (And.intro hr hr2)
  clear hr hx hr2 hy hb1 hb2 hl
  go_enter Tryz.func68, Tryz.ntmps68
  have hq0 := CellQ.new w (.slice A fs.length c) (.slice A2 n2 c2) s b
  have hp0 := CellQ.new (w.alloc (.cells #[.slice A fs.length c, .int .i64 s, .bool b, .slice A2 n2 c2] 59)) (.slice E fs.length d) (.slice E2 m2 d2) t e
  rw [size_alloc] at hp0
  have HU1 := Lib.hid (Up.alloc w (.cells #[.slice A fs.length c, .int .i64 s, .bool b, .slice A2 n2 c2] 59))
  have HU2 := Lib.hid (Up.alloc (w.alloc (.cells #[.slice A fs.length c, .int .i64 s, .bool b, .slice A2 n2 c2] 59)) (.cells #[.slice E fs.length d, .int .i64 t, .bool e, .slice E2 m2 d2] 59))
  have HQ := Lib.hid (hq0.up HU2.out)
  have HP := Lib.hid hp0
  have HUW := Lib.hid (HU1.out.trans HU2.out)
  clear hq0 hp0 HU1 HU2
  go_upto_region 1 with fail
  generalize (w.alloc (.cells #[.slice A fs.length c, .int .i64 s, .bool b, .slice A2 n2 c2] 59)).alloc (.cells #[.slice E fs.length d, .int .i64 t, .bool e, .slice E2 m2 d2] 59) = wB at *
  obtain ⟨g0, hg0⟩ : ∃ g0, g0 = w.heap.size := ⟨_, rfl⟩
  obtain ⟨g1, hg1⟩ : ∃ g1, g1 = w.heap.size + 1 := ⟨_, rfl⟩
  rw [← hg0] at HQ
  rw [← hg1] at HP
  rw [← hg1, ← hg0]
  clear hg0 hg1
  obtain ⟨q0, q1, q2, q3, -, lq⟩ := HQ.out.facts
  obtain ⟨p0, p1, p2, p3, -, lp⟩ := HP.out.facts
  by_cases hxy : x = y
  · have HD2 : Hid (decide ((fs, x) = (gs, y)) = decide (fs = gs)) := Lib.hid (by rw [HDEC.out, decide_eq_true hxy]; rfl)
    have hk : (x - y).sign = 0 := by rw [hxy, Int.sub_self, Int.sign_zero]
    rw [hk] at HCX
    clear hk hxy HDEC
    go_wp2_with fail
    refine Calls.mono (HCX.out _ HUW.out) ?_
    rintro e0 w1 ⟨rfl, hu⟩
    have HQ1 := Lib.hid (HQ.out.up hu)
    have HP1 := Lib.hid (HP.out.up hu)
    have HU1 := Lib.hid (HUW.out.trans hu)
    clear hu q0 q1 q2 q3 lq p0 p1 p2 p3 lp HQ HP HUW HCX
    obtain ⟨q0, q1, q2, q3, -, lq⟩ := HQ1.out.facts
    go_wp2_with fail
    go_loopw [24] (fun i wr => ∃ k : Nat, k ≤ fs.length ∧ i = .int .i64 k ∧ Hid (fs.take k = gs.take k) ∧ Hid (Up w1 wr)) (fun i _ => fs.length - (intOf i).toNat)
    case atStart => exact ⟨0, by omega, rfl, Lib.hid rfl, Lib.hid (Up.refl _)⟩
    case round =>
      obtain ⟨k, hk, rfl, HK, HU⟩ := hrel
      clear q0 q1 q2 q3 lq
      by_cases hkl : k < fs.length
      · have hkl2 : k < gs.length := by have := HL.out; omega
        obtain ⟨b9, off, cs, rfl, hbb, ⟨t1, d1, D1, m1, j1, rfl, hz⟩, hcell⟩ := (HR.out.1.up (HU1.out.trans HU.out)).at_ hkl
        obtain ⟨b8, off2, ds, rfl, hbb2, ⟨t3, d3, D3, m3, j3, rfl, hz2⟩, hcell2⟩ := (HR.out.2.up (HU1.out.trans HU.out)).at_ hkl2
        have e0 := hcell 0 _ rfl
        have e1 := hcell 1 _ rfl
        have e2 := hcell 2 _ rfl
        have e3 := hcell2 0 _ rfl
        have e4 := hcell2 1 _ rfl
        have e5 := hcell2 2 _ rfl
        have i0 : (0 : Int) ≤ (k : Int) := by omega
        have i1 : (k : Int) < (fs.length : Int) := by omega
        have HNEXT : Hid (fs[k] = gs[k] → fs.take (k + 1) = gs.take (k + 1)) := Lib.hid (fun he => by
          rw [List.take_succ_eq_append_getElem hkl, List.take_succ_eq_append_getElem hkl2, HK.out, he])
        have HFALSE : Hid (fs[k] ≠ gs[k] → decide (fs = gs) = false) := Lib.hid (fun he => by
          simp only [decide_eq_false_iff_not]
          intro e; subst e; exact he rfl)
        have hb1 := HB.out.1 _ (List.getElem_mem hkl)
        have hb2 := HB.out.2 _ (List.getElem_mem hkl2)
        have HCK := Lib.hid (fun W (hu : Up wr W) => HCM.out W _ _ fs[k] gs[k] (hz.ri.up hu) (hz2.ri.up hu) (by omega) (by omega))
        obtain ⟨q0, q1, q2, q3, -, lq⟩ := (HQ1.out.up HU.out).facts
        obtain ⟨p0, p1, p2, p3, -, lp⟩ := (HP1.out.up HU.out).facts
        clear hcell hz hcell2 hz2 hb1 hb2
        simp only [eltR, Nat.add_zero] at e0 e1 e2 e3 e4 e5
        generalize fs[k] = x1 at *
        generalize gs[k] = y1 at *
        clear hkl2
        by_cases hfg : x1 = y1
        · have HT := Lib.hid (HNEXT.out hfg)
          have hk0 : (x1 - y1).sign = 0 := by rw [hfg, Int.sub_self, Int.sign_zero]
          rw [hk0] at HCK
          clear hk0 hfg HNEXT HFALSE
          go_upto_region 6 with fail
          go_region_with
            ((go_at_call 108
              refine Calls.mono (HCK.out _ (by (repeat (first | exact Below.refl _ _ | exact Hid.out (by assumption) | refine Up.trans ?_ (Up.drew _) | refine Up.trans ?_ (Up.drewN _ _) | refine Up.trans ?_ (Up.alloc _ _) | refine Up.trans ?_ (Hid.out (by assumption)))))) ?_
              rintro e0 w5 ⟨rfl, hu⟩
              have HU5 := Lib.hid hu
              clear hu))
          all_goals
            go_wp2_with fail
            exact ⟨⟨k + 1, by omega, by simp, HT, Lib.hid (by (repeat (first | exact Below.refl _ _ | exact Hid.out (by assumption) | refine Up.trans ?_ (Up.drew _) | refine Up.trans ?_ (Up.drewN _ _) | refine Up.trans ?_ (Up.alloc _ _) | refine Up.trans ?_ (Hid.out (by assumption)))))⟩, by simp [intOf]; omega⟩
        · have HF := Lib.hid (HFALSE.out hfg)
          have hk1 : ¬ (x1 - y1).sign = 0 := by
            intro h
            exact hfg (by have := Int.sign_eq_zero_iff_zero.1 h; omega)
          generalize (x1 - y1).sign = K at *
          clear hfg HNEXT HFALSE
          go_upto_region 6 with fail
          go_region_with
            ((go_at_call 108
              refine Calls.mono (HCK.out _ (by (repeat (first | exact Below.refl _ _ | exact Hid.out (by assumption) | refine Up.trans ?_ (Up.drew _) | refine Up.trans ?_ (Up.drewN _ _) | refine Up.trans ?_ (Up.alloc _ _) | refine Up.trans ?_ (Hid.out (by assumption)))))) ?_
              rintro e0 w5 ⟨rfl, hu⟩
              have HU5 := Lib.hid hu
              clear hu))
          all_goals
            go_wp2
            go_ret
            exact ⟨by rw [HD2.out, HF.out]; rfl, by (repeat (first | exact Below.refl _ _ | exact Hid.out (by assumption) | refine Up.trans ?_ (Up.drew _) | refine Up.trans ?_ (Up.drewN _ _) | refine Up.trans ?_ (Up.alloc _ _) | refine Up.trans ?_ (Hid.out (by assumption))))⟩
      · have HN : Hid (decide (fs = gs) = true) := Lib.hid (by
          have h1 := HK.out
          have h2 := HL.out
          rw [List.take_of_length_le (by omega), List.take_of_length_le (by omega)] at h1
          simp [h1])
        go_wp2
        go_ret
        exact ⟨by rw [HD2.out, HN.out]; rfl, HU1.out.trans HU.out⟩
  · have HD2 : Hid (decide ((fs, x) = (gs, y)) = false) := Lib.hid (by rw [HDEC.out, decide_eq_false hxy]; rfl)
    have hk1 : ¬ (x - y).sign = 0 := by
      intro h
      exact hxy (by have := Int.sign_eq_zero_iff_zero.1 h; omega)
    generalize (x - y).sign = K at *
    clear hxy HDEC
    go_wp2_with fail
    refine Calls.mono (HCX.out _ HUW.out) ?_
    rintro e0 w1 ⟨rfl, hu⟩
    have HU1 := Lib.hid (HUW.out.trans hu)
    clear hu
    go_wp2
    go_ret
    exact ⟨by rw [HD2.out]; rfl, HU1.out⟩
end Go.Proofs.YtacbjbnocepnaaaGreatDoor
namespace Go.Proofs.YtacbjbnocepnaaaGreatDoor
open Go.RowKit Fm
end Go.Proofs.YtacbjbnocepnaaaGreatDoor
namespace Go.Proofs.YtacbjbnocepnaaaGreatDoor
open Go.RowKit Fm
theorem same_solL {n : Nat} {fs gs : List (List Int × Int)} (hn : n ≤ 8) (hf : ∀ f, f ∈ fs → f.1.length = n) (hg : ∀ f, f ∈ gs → f.1.length = n) :
    sameS n (sysR n (fs.map rowF)) (sysR n (gs.map rowF)) = (decide (((sysR n (fs.map rowF)).getD n none).isNone = ((sysR n (gs.map rowF)).getD n none).isNone) && decide (solL n fs = solL n gs)) := by
  have hlen : ∀ ls : List (List Int × Int), (∀ f, f ∈ ls → f.1.length = n) → ∀ r, r ∈ ls.map rowF → r.length = n + 1 := fun ls h r hr => by
    obtain ⟨f, h1, rfl⟩ := List.mem_map.1 hr
    simp [rowF, h f h1]
  have hS := sysR_red n (by omega) _ (hlen fs hf)
  have hT := sysR_red n (by omega) _ (hlen gs hg)
  unfold sameS solL echF
  generalize sysR n (fs.map rowF) = S at *
  generalize sysR n (gs.map rowF) = T at *
  rcases hP : (S.getD n none).isNone with _ | _ <;> rcases hQ : (T.getD n none).isNone with _ | _
  · simp
  · simp
  · simp
  · simp only [Bool.and_self, if_true, decide_true, Bool.true_and]
    have hSn : S.getD n none = none := by simpa using hP
    have hTn : T.getD n none = none := by simpa using hQ
    rw [Bool.eq_iff_iff]
    simp only [decide_eq_true_eq]
    constructor
    · rintro rfl; rfl
    · intro e
      have e2 := congrArg (List.map rowF) e
      rw [toF_rowF hS.ech, toF_rowF hT.ech] at e2
      rw [← sysR_rows (by omega) hS hSn, ← sysR_rows (by omega) hT hTn, e2]
end Go.Proofs.YtacbjbnocepnaaaGreatDoor
namespace Go.Proofs.YtacbjbnocepnaaaGreatDoor
open Go.RowKit Fm
set_option maxHeartbeats 4000000 in
set_option maxRecDepth 10000 in
theorem refSame_ok (A B : Option Addr) (c d n : Nat) (fs gs : List (List Int × Int)) (w : World) (hc : fs.length ≤ 9223372036854775807) (hd : gs.length ≤ 9223372036854775807) (hr : RdE eltForm w A fs) (hs : RdE eltForm w B gs) (hv : validFs n fs = true) (hv2 : validFs n gs = true) :
    Calls Tryz.prog 22 #[.int .i64 n, .slice A fs.length c, .slice B gs.length d] w fun e w' => e = .returned (.tuple #[.bool (sameS n (sysR n (fs.map rowF)) (sysR n (gs.map rowF))), .int .i64 0]) ∧ Up w w' := by
  obtain ⟨-, hn8, h120, -⟩ := validFs_all hv
  obtain ⟨-, -, h121, -⟩ := validFs_all hv2
  have hn : n ≤ 8 := by omega
  have HV := Lib.hid (fun W (hu : Up w W) => refValidForms_any A c n fs W hc (hr.up hu))
  have HV2 := Lib.hid (fun W (hu : Up w W) => refValidForms_any B d n gs W hd (hs.up hu))
  rw [hv] at HV
  rw [hv2] at HV2
  have hro := rowsOk_of hv
  have hro2 := rowsOk_of hv2
  have hfl : ∀ f, f ∈ fs → f.1.length = n := fun f hf => (hro.one f hf).1
  have hgl : ∀ f, f ∈ gs → f.1.length = n := fun f hf => (hro2.one f hf).1
  have hfv : ∀ f, f ∈ fs → f.1.length ≤ 1000000 ∧ (∀ y, y ∈ f.1 → limI y = true) ∧ limI f.2 = true := fun f hf => by
    have h := validFs_each hv f hf
    simp only [validF, Bool.and_eq_true, List.all_eq_true, decide_eq_true_eq] at h
    exact ⟨by have := hfl f hf; omega, h.2, h.1.2⟩
  have hgv : ∀ f, f ∈ gs → f.1.length ≤ 1000000 ∧ (∀ y, y ∈ f.1 → limI y = true) ∧ limI f.2 = true := fun f hf => by
    have h := validFs_each hv2 f hf
    simp only [validF, Bool.and_eq_true, List.all_eq_true, decide_eq_true_eq] at h
    exact ⟨by have := hgl f hf; omega, h.2, h.1.2⟩
  have HA := Lib.hid (fun W (hu : Up w W) => refRows_any A c fs W (by omega) (hr.up hu) hfv)
  have HA2 := Lib.hid (fun W (hu : Up w W) => refRows_any B d gs W (by omega) (hs.up hu) hgv)
  have HS := Lib.hid (fun W A' c' (h : RdE eltW W A' fs) => refSolved_of A' c' n fs W hn (by omega) h hro)
  have HS2 := Lib.hid (fun W A' c' (h : RdE eltW W A' gs) => refSolved_of A' c' n gs W hn (by omega) h hro2)
  have HQ := Lib.hid (same_solL hn hfl hgl)
  have HRF := Lib.hid (solL_ok hn hro)
  have HRG := Lib.hid (solL_ok hn hro2)
  have hl8 := solL_len hn hro
  have hl9 := solL_len hn hro2
  clear hr hs hv hv2 hro hro2 hfl hgl hfv hgv h120 h121 hn8
  generalize sameS n (sysR n (fs.map rowF)) (sysR n (gs.map rowF)) = ans at *
  generalize ((sysR n (fs.map rowF)).getD n none).isNone = P at *
  generalize ((sysR n (gs.map rowF)).getD n none).isNone = Q at *
  generalize solL n fs = xs at *
  generalize solL n gs = ys at *
  go_enter Tryz.func22, Tryz.ntmps22
  go_wp2_with fail
  refine Calls.mono (HV.out _ (by (repeat (first | exact Below.refl _ _ | exact Hid.out (by assumption) | refine Up.trans ?_ (Up.drew _) | refine Up.trans ?_ (Up.drewN _ _) | refine Up.trans ?_ (Up.alloc _ _) | refine Up.trans ?_ (Hid.out (by assumption)))))) ?_
  rintro e w1 ⟨rfl, hu⟩
  have HU1 := Lib.hid hu
  clear hu
  go_wp2_with fail
  refine Calls.mono (HV2.out _ (by (repeat (first | exact Below.refl _ _ | exact Hid.out (by assumption) | refine Up.trans ?_ (Up.drew _) | refine Up.trans ?_ (Up.drewN _ _) | refine Up.trans ?_ (Up.alloc _ _) | refine Up.trans ?_ (Hid.out (by assumption)))))) ?_
  rintro e w2 ⟨rfl, hu⟩
  have HU2 := Lib.hid hu
  clear hu
  go_wp2_with fail
  refine Calls.mono (HA.out _ (by (repeat (first | exact Below.refl _ _ | exact Hid.out (by assumption) | refine Up.trans ?_ (Up.drew _) | refine Up.trans ?_ (Up.drewN _ _) | refine Up.trans ?_ (Up.alloc _ _) | refine Up.trans ?_ (Hid.out (by assumption)))))) ?_
  rintro e w3 ⟨A3, c3, rfl, hr3, hu⟩
  have HU3 := Lib.hid hu
  have HR3 := Lib.hid hr3
  clear hu hr3
  go_wp2_with fail
  refine Calls.mono (HS.out _ _ _ HR3.out) ?_
  rintro e w4 ⟨A4, c4, rfl, hr4, hu⟩
  have HU4 := Lib.hid hu
  have HR4 := Lib.hid hr4
  clear hu hr4
  go_wp2_with fail
  refine Calls.mono (HA2.out _ (by (repeat (first | exact Below.refl _ _ | exact Hid.out (by assumption) | refine Up.trans ?_ (Up.drew _) | refine Up.trans ?_ (Up.drewN _ _) | refine Up.trans ?_ (Up.alloc _ _) | refine Up.trans ?_ (Hid.out (by assumption)))))) ?_
  rintro e w5 ⟨A5, c5, rfl, hr5, hu⟩
  have HU5 := Lib.hid hu
  have HR5 := Lib.hid hr5
  clear hu hr5
  go_wp2_with fail
  refine Calls.mono (HS2.out _ _ _ HR5.out) ?_
  rintro e w6 ⟨A6, c6, rfl, hr6, hu⟩
  have HU6 := Lib.hid hu
  have HR6 := Lib.hid hr6
  have HR7 := Lib.hid (HR4.out.up (HU5.out.trans hu))
  have HUW := Lib.hid (show Up w w6 by (repeat (first | exact Below.refl _ _ | exact Hid.out (by assumption) | refine Up.trans ?_ (Up.drew _) | refine Up.trans ?_ (Up.drewN _ _) | refine Up.trans ?_ (Up.alloc _ _) | refine Up.trans ?_ (Hid.out (by assumption)))))
  clear hu hr6 HU1 HU2 HU3 HU4 HU5 HU6 HR3 HR4 HR5 HV HV2 HA HA2 HS HS2
  by_cases hPQ : P = Q
  · subst hPQ
    by_cases hlen : xs.length = ys.length
    · have HL := Lib.hid hlen
      have HQ2 : Hid (ans = decide (xs = ys)) := Lib.hid (by rw [HQ.out, decide_eq_true rfl]; rfl)
      rw [← hlen]
      rw [← hlen] at hl9
      clear hlen HQ
      cases P <;>
      · go_wp2_with fail
        go_loopw [49] (fun i wr => ∃ k : Nat, k ≤ xs.length ∧ i = .int .i64 k ∧ Hid (xs.take k = ys.take k) ∧ Hid (Up w6 wr)) (fun i _ => xs.length - (intOf i).toNat)
        case atStart => exact ⟨0, by omega, rfl, Lib.hid rfl, Lib.hid (Up.refl _)⟩
        case round =>
          obtain ⟨k, hk, rfl, HK, HU⟩ := hrel
          by_cases hkl : k < xs.length
          · have hkl2 : k < ys.length := by have := HL.out; omega
            obtain ⟨b9, off, cs, rfl, hbb, hrel1, hcell⟩ := (HR7.out.up HU.out).at_ hkl
            obtain ⟨b8, off2, ds, rfl, hbb2, hrel2, hcell2⟩ := (HR6.out.up HU.out).at_ hkl2
            have HNEXT : Hid (xs[k] = ys[k] → xs.take (k + 1) = ys.take (k + 1)) := Lib.hid (fun he => by
              rw [List.take_succ_eq_append_getElem hkl, List.take_succ_eq_append_getElem hkl2, HK.out, he])
            have HFALSE : Hid (xs[k] ≠ ys[k] → decide (xs = ys) = false) := Lib.hid (fun he => by
              simp only [decide_eq_false_iff_not]
              intro e; subst e; exact he rfl)
            obtain ⟨f1, f2, f3⟩ := HRF.out _ (List.getElem_mem hkl)
            obtain ⟨g1, g2, g3⟩ := HRG.out _ (List.getElem_mem hkl2)
            obtain ⟨E1, d1, s1, b1, E2, n2, d2, rfl, -⟩ := id hrel1
            obtain ⟨E3, d3, s3, b3, E4, n4, d4, rfl, -⟩ := id hrel2
            obtain ⟨-, p1, p2⟩ := eltW_parts hrel1
            obtain ⟨-, p3, p4⟩ := eltW_parts hrel2
            have HSR := Lib.hid (fun W (hu : Up wr W) => refSameRow_any E1 E2 E3 E4 d1 d2 n2 d3 d4 n4 s1 s3 b1 b3 xs[k] ys[k] W (by omega) (by omega) (p1.up hu) (p2.up hu) (p3.up hu) (p4.up hu) ⟨fun z hz => Nat.le_trans (f2 z hz) (by omega), by omega⟩ ⟨fun z hz => Nat.le_trans (g2 z hz) (by omega), by omega⟩)
            have e0 := hcell 0 _ rfl
            have e1 := hcell 1 _ rfl
            have e2 := hcell 2 _ rfl
            have e3 := hcell 3 _ rfl
            have e4 := hcell2 0 _ rfl
            have e5 := hcell2 1 _ rfl
            have e6 := hcell2 2 _ rfl
            have e7 := hcell2 3 _ rfl
            simp only [eltW, Nat.add_zero] at e0 e1 e2 e3 e4 e5 e6 e7
            rw [f1] at e0 HSR
            rw [g1] at e4
            have i0 : (0 : Int) ≤ (k : Int) := by omega
            have i1 : (k : Int) < (xs.length : Int) := by omega
            clear hcell hcell2 hrel1 hrel2 p1 p2 p3 p4 f1 f2 f3 g1 g2 g3
            generalize xs[k] = x at *
            generalize ys[k] = y at *
            clear hkl2
            by_cases hxy : x = y
            · have HT := Lib.hid (HNEXT.out hxy)
              rw [decide_eq_true hxy] at HSR
              clear hxy HNEXT HFALSE
              go_upto_region 10 with fail
              go_region_with
                ((go_at_call 68
                  refine Calls.mono (HSR.out _ (by (repeat (first | exact Below.refl _ _ | exact Hid.out (by assumption) | refine Up.trans ?_ (Up.drew _) | refine Up.trans ?_ (Up.drewN _ _) | refine Up.trans ?_ (Up.alloc _ _) | refine Up.trans ?_ (Hid.out (by assumption)))))) ?_
                  rintro e0 w7 ⟨rfl, hu⟩
                  have HU7 := Lib.hid hu
                  clear hu))
              all_goals
                go_wp2_with fail
                exact ⟨⟨k + 1, by omega, by simp, HT, Lib.hid (by (repeat (first | exact Below.refl _ _ | exact Hid.out (by assumption) | refine Up.trans ?_ (Up.drew _) | refine Up.trans ?_ (Up.drewN _ _) | refine Up.trans ?_ (Up.alloc _ _) | refine Up.trans ?_ (Hid.out (by assumption)))))⟩, by simp [intOf]; omega⟩
            · have HF := Lib.hid (HFALSE.out hxy)
              rw [decide_eq_false hxy] at HSR
              clear hxy HNEXT HFALSE
              go_upto_region 10 with fail
              go_region_with
                ((go_at_call 68
                  refine Calls.mono (HSR.out _ (by (repeat (first | exact Below.refl _ _ | exact Hid.out (by assumption) | refine Up.trans ?_ (Up.drew _) | refine Up.trans ?_ (Up.drewN _ _) | refine Up.trans ?_ (Up.alloc _ _) | refine Up.trans ?_ (Hid.out (by assumption)))))) ?_
                  rintro e0 w7 ⟨rfl, hu⟩
                  have HU7 := Lib.hid hu
                  clear hu))
              all_goals
                go_wp2
                refine bodyPost_ret (by simp [results, Tryz.results22, go_sem]; try rfl) rfl ?_
                exact ⟨by rw [HQ2.out, HF.out], by (repeat (first | exact Below.refl _ _ | exact Hid.out (by assumption) | refine Up.trans ?_ (Up.drew _) | refine Up.trans ?_ (Up.drewN _ _) | refine Up.trans ?_ (Up.alloc _ _) | refine Up.trans ?_ (Hid.out (by assumption))))⟩
          · have HN : Hid (decide (xs = ys) = true) := Lib.hid (by
              have h1 := HK.out
              have h2 := HL.out
              rw [List.take_of_length_le (by omega), List.take_of_length_le (by omega)] at h1
              simp [h1])
            go_wp2
            refine bodyPost_ret (by simp [results, Tryz.results22, go_sem]; try rfl) rfl ?_
            exact ⟨by rw [HQ2.out, HN.out], HUW.out.trans HU.out⟩
    · have HQ2 : Hid (ans = false) := Lib.hid (by
        rw [HQ.out, decide_eq_true rfl, Bool.true_and, decide_eq_false_iff_not]
        intro e; rw [e] at hlen; exact hlen rfl)
      have hne : ((xs.length : Int) != (ys.length : Int)) = true := by simp; omega
      have hne2 : ¬ (xs.length : Int) = (ys.length : Int) := by omega
      clear hlen HQ
      cases P <;>
      · go_wp2
        refine bodyPost_ret (by simp [results, Tryz.results22, go_sem]; try rfl) rfl ?_
        exact ⟨by rw [HQ2.out], HUW.out⟩
  · have HQ2 : Hid (ans = false) := Lib.hid (by rw [HQ.out, decide_eq_false hPQ]; rfl)
    cases P <;> cases Q
    · exact absurd rfl hPQ
    · clear hPQ HQ
      go_wp2
      refine bodyPost_ret (by simp [results, Tryz.results22, go_sem]; try rfl) rfl ?_
      exact ⟨by rw [HQ2.out], HUW.out⟩
    · clear hPQ HQ
      go_wp2
      refine bodyPost_ret (by simp [results, Tryz.results22, go_sem]; try rfl) rfl ?_
      exact ⟨by rw [HQ2.out], HUW.out⟩
    · exact absurd rfl hPQ
set_option maxHeartbeats 1000000 in
set_option maxRecDepth 10000 in
theorem refSame_bad (A B : Option Addr) (c d : Nat) (n : Int) (fs gs : List (List Int × Int)) (w : World) (hc : fs.length ≤ 9223372036854775807) (hd : gs.length ≤ 9223372036854775807) (hr : RdE eltForm w A fs) (hs : RdE eltForm w B gs) (hv : (validFs n fs && validFs n gs) = false) :
    Calls Tryz.prog 22 #[.int .i64 n, .slice A fs.length c, .slice B gs.length d] w fun e w' => e = .returned (.tuple #[.bool false, .int .i64 1]) ∧ Up w w' := by
  have HV := Lib.hid (fun W (hu : Up w W) => refValidForms_any A c n fs W hc (hr.up hu))
  have HV2 := Lib.hid (fun W (hu : Up w W) => refValidForms_any B d n gs W hd (hs.up hu))
  clear hr hs
  generalize validFs n fs = a at *
  generalize validFs n gs = b at *
  cases a
  · clear hv
    go_enter Tryz.func22, Tryz.ntmps22
    go_wp2_with fail
    refine Calls.mono (HV.out _ (by (repeat (first | exact Below.refl _ _ | exact Hid.out (by assumption) | refine Up.trans ?_ (Up.drew _) | refine Up.trans ?_ (Up.drewN _ _) | refine Up.trans ?_ (Up.alloc _ _) | refine Up.trans ?_ (Hid.out (by assumption)))))) ?_
    rintro e w1 ⟨rfl, hu⟩
    have HU1 := Lib.hid hu
    clear hu
    go_wp2
    refine bodyPost_ret (by simp [results, Tryz.results22, go_sem]; try rfl) rfl ?_
    exact ⟨rfl, by (repeat (first | exact Below.refl _ _ | exact Hid.out (by assumption) | refine Up.trans ?_ (Up.drew _) | refine Up.trans ?_ (Up.drewN _ _) | refine Up.trans ?_ (Up.alloc _ _) | refine Up.trans ?_ (Hid.out (by assumption))))⟩
  · have hb : b = false := by simpa using hv
    subst hb
    clear hv
    go_enter Tryz.func22, Tryz.ntmps22
    go_wp2_with fail
    refine Calls.mono (HV.out _ (by (repeat (first | exact Below.refl _ _ | exact Hid.out (by assumption) | refine Up.trans ?_ (Up.drew _) | refine Up.trans ?_ (Up.drewN _ _) | refine Up.trans ?_ (Up.alloc _ _) | refine Up.trans ?_ (Hid.out (by assumption)))))) ?_
    rintro e w1 ⟨rfl, hu⟩
    have HU1 := Lib.hid hu
    clear hu
    go_wp2_with fail
    refine Calls.mono (HV2.out _ (by (repeat (first | exact Below.refl _ _ | exact Hid.out (by assumption) | refine Up.trans ?_ (Up.drew _) | refine Up.trans ?_ (Up.drewN _ _) | refine Up.trans ?_ (Up.alloc _ _) | refine Up.trans ?_ (Hid.out (by assumption)))))) ?_
    rintro e w2 ⟨rfl, hu⟩
    have HU2 := Lib.hid hu
    clear hu
    go_wp2
    refine bodyPost_ret (by simp [results, Tryz.results22, go_sem]; try rfl) rfl ?_
    exact ⟨rfl, by (repeat (first | exact Below.refl _ _ | exact Hid.out (by assumption) | refine Up.trans ?_ (Up.drew _) | refine Up.trans ?_ (Up.drewN _ _) | refine Up.trans ?_ (Up.alloc _ _) | refine Up.trans ?_ (Hid.out (by assumption))))⟩
theorem refSameL_any (A B : Option Addr) (c d : Nat) (n : Int) (fs gs : List (List Int × Int)) (w : World) (hc : fs.length ≤ 9223372036854775807) (hd : gs.length ≤ 9223372036854775807) (hr : RdE eltForm w A fs) (hs : RdE eltForm w B gs) :
    Calls Tryz.prog 22 #[.int .i64 n, .slice A fs.length c, .slice B gs.length d] w fun e w' => e = .returned (.tuple #[.bool (sameB n fs gs), .int .i64 (sameE n fs gs)]) ∧ Up w w' := by
  rcases h : (validFs n fs && validFs n gs) with _ | _
  · unfold sameB sameE
    rw [h]
    exact refSame_bad A B c d n fs gs w hc hd hr hs h
  · unfold sameB sameE
    rw [h]
    rw [Bool.and_eq_true] at h
    obtain ⟨m, rfl, hm8, -⟩ := validFs_dim9 h.1
    exact refSame_ok A B c d m fs gs w hc hd hr hs h.1 h.2
end Go.Proofs.YtacbjbnocepnaaaGreatDoor
namespace Go.Proofs.YtacbjbnocepnaaaGreatDoor
open Go.RowKit Fm
set_option maxHeartbeats 2000000 in
set_option maxRecDepth 10000 in
theorem linSameLaw_any (A B : Option Addr) (c d : Nat) (n : Int) (fs gs : List (List Int × Int)) (w : World) (hc : fs.length ≤ c) (hcm : c ≤ maxLen) (hr : RdE eltForm w A fs) (hd : gs.length ≤ d) (hdm : d ≤ maxLen) (hs : RdE eltForm w B gs) (ht : Tab w) :
    Calls Tryz.prog 5 #[.int .i64 n, .slice A fs.length c, .slice B gs.length d] w fun e w' => e = .returned (.bool true) ∧ Up w w' := by
  have hl1 := len_le hc hcm
  have hl2 := len_le hd hdm
  have HF := Lib.hid (fun W (hu : Up w W) => few_all A c fs W hl1 (hr.up hu))
  have HG := Lib.hid (fun W (hu : Up w W) => few_all B d gs W hl2 (hs.up hu))
  have HS := Lib.hid (fun W (hu : Up w W) => linSame_any A B c d n fs gs W hl1 hl2 (hr.up hu) (hs.up hu) (ht.up hu))
  have HR := Lib.hid (fun W (hu : Up w W) => refSameL_any A B c d n fs gs W hl1 hl2 (hr.up hu) (hs.up hu))
  have HAW := Lib.hid (fun W (hu : Up w W) => linAwake_any W (ht.up hu))
  clear hr hs ht hl1 hl2 hc hcm hd hdm
  generalize fewF fs = p at *
  generalize fewF gs = q at *
  generalize sameB n fs gs = b at *
  generalize sameE n fs gs = x at *
  go_enter Tryz.func5, Tryz.ntmps5
  go_wp2_with fail
  refine Calls.mono (HF.out _ (by (repeat (first | exact Below.refl _ _ | exact Hid.out (by assumption) | refine Up.trans ?_ (Up.drew _) | refine Up.trans ?_ (Up.drewN _ _) | refine Up.trans ?_ (Up.alloc _ _) | refine Up.trans ?_ (Hid.out (by assumption)))))) ?_
  rintro e w1 ⟨rfl, hu⟩
  have HU1 := Lib.hid hu
  clear hu
  cases p
  · go_wp2_with fail
    refine Calls.mono (HAW.out _ (by (repeat (first | exact Below.refl _ _ | exact Hid.out (by assumption) | refine Up.trans ?_ (Up.drew _) | refine Up.trans ?_ (Up.drewN _ _) | refine Up.trans ?_ (Up.alloc _ _) | refine Up.trans ?_ (Hid.out (by assumption)))))) ?_
    rintro e w2 ⟨rfl, hu⟩
    have HU2 := Lib.hid hu
    clear hu
    go_wp2
    go_ret
    exact ⟨rfl, by (repeat (first | exact Below.refl _ _ | exact Hid.out (by assumption) | refine Up.trans ?_ (Up.drew _) | refine Up.trans ?_ (Up.drewN _ _) | refine Up.trans ?_ (Up.alloc _ _) | refine Up.trans ?_ (Hid.out (by assumption))))⟩
  · go_wp2_with fail
    refine Calls.mono (HG.out _ (by (repeat (first | exact Below.refl _ _ | exact Hid.out (by assumption) | refine Up.trans ?_ (Up.drew _) | refine Up.trans ?_ (Up.drewN _ _) | refine Up.trans ?_ (Up.alloc _ _) | refine Up.trans ?_ (Hid.out (by assumption)))))) ?_
    rintro e w2 ⟨rfl, hu⟩
    have HU2 := Lib.hid hu
    clear hu
    cases q
    · go_wp2_with fail
      refine Calls.mono (HAW.out _ (by (repeat (first | exact Below.refl _ _ | exact Hid.out (by assumption) | refine Up.trans ?_ (Up.drew _) | refine Up.trans ?_ (Up.drewN _ _) | refine Up.trans ?_ (Up.alloc _ _) | refine Up.trans ?_ (Hid.out (by assumption)))))) ?_
      rintro e w3 ⟨rfl, hu⟩
      have HU3 := Lib.hid hu
      clear hu
      go_wp2
      go_ret
      exact ⟨rfl, by (repeat (first | exact Below.refl _ _ | exact Hid.out (by assumption) | refine Up.trans ?_ (Up.drew _) | refine Up.trans ?_ (Up.drewN _ _) | refine Up.trans ?_ (Up.alloc _ _) | refine Up.trans ?_ (Hid.out (by assumption))))⟩
    · go_wp2_with fail
      refine Calls.mono (HS.out _ (by (repeat (first | exact Below.refl _ _ | exact Hid.out (by assumption) | refine Up.trans ?_ (Up.drew _) | refine Up.trans ?_ (Up.drewN _ _) | refine Up.trans ?_ (Up.alloc _ _) | refine Up.trans ?_ (Hid.out (by assumption)))))) ?_
      rintro e w3 ⟨rfl, hu⟩
      have HU3 := Lib.hid hu
      clear hu
      go_wp2_with fail
      refine Calls.mono (HR.out _ (by (repeat (first | exact Below.refl _ _ | exact Hid.out (by assumption) | refine Up.trans ?_ (Up.drew _) | refine Up.trans ?_ (Up.drewN _ _) | refine Up.trans ?_ (Up.alloc _ _) | refine Up.trans ?_ (Hid.out (by assumption)))))) ?_
      rintro e w4 ⟨rfl, hu⟩
      have HU4 := Lib.hid hu
      clear hu
      cases b <;>
      · go_wp2_with fail
        refine Calls.mono (HAW.out _ (by (repeat (first | exact Below.refl _ _ | exact Hid.out (by assumption) | refine Up.trans ?_ (Up.drew _) | refine Up.trans ?_ (Up.drewN _ _) | refine Up.trans ?_ (Up.alloc _ _) | refine Up.trans ?_ (Hid.out (by assumption)))))) ?_
        rintro e w5 ⟨rfl, hu⟩
        have HU5 := Lib.hid hu
        clear hu
        go_wp2
        go_ret
        exact ⟨rfl, by (repeat (first | exact Below.refl _ _ | exact Hid.out (by assumption) | refine Up.trans ?_ (Up.drew _) | refine Up.trans ?_ (Up.drewN _ _) | refine Up.trans ?_ (Up.alloc _ _) | refine Up.trans ?_ (Hid.out (by assumption))))⟩
end Go.Proofs.YtacbjbnocepnaaaGreatDoor

/- Contract of the reference's elimination: a row cleared by another one. -/
import Derived.Test.YtacbjbnocepnaaaGreatDoorQIA
import Derived.Test.YtacbjbnocepnaaaGreatDoorQHS
namespace Go.Proofs.YtacbjbnocepnaaaGreatDoor
open Go.RowKit Fm
theorem rl_negate (z : Int) : rl (-z) = rl z := by unfold rl; rw [Int.natAbs_neg]
theorem far4 {w : World} {g i g2 : Nat} {r : Option Value} (h : w.cell? ⟨g, i, none⟩ = r) (hn : g ≠ g2) (a b c d : Value) : ((((w.setCell ⟨g2, 0, none⟩ a).setCell ⟨g2, 1, none⟩ b).setCell ⟨g2, 2, none⟩ c).setCell ⟨g2, 3, none⟩ d).cell? ⟨g, i, none⟩ = r := by
  have hh : ∀ j : Nat, (⟨g2, j, none⟩ : Addr).block ≠ (⟨g, i, none⟩ : Addr).block := fun j e => hn e.symm
  rw [World.cell?_setCell_other _ _ _ _ (by intro e; injection e with e; exact hn (by first | exact e | exact e.symm)), World.cell?_setCell_other _ _ _ _ (by intro e; injection e with e; exact hn (by first | exact e | exact e.symm)), World.cell?_setCell_other _ _ _ _ (by intro e; injection e with e; exact hn (by first | exact e | exact e.symm)), World.cell?_setCell_other _ _ _ _ (by intro e; injection e with e; exact hn (by first | exact e | exact e.symm))]
  exact h
set_option maxHeartbeats 8000000 in
set_option maxRecDepth 10000 in
theorem refClear_new (A A2 E E2 : Option Addr) (c c2 n2 f f2 m2 v : Nat) (s t : Int) (b d : Bool) (zs ys : List Int) (x y : Int) (w : World) (hn : zs.length ≤ 1000) (hl : ys.length = zs.length) (hr : RdE eltR w A zs) (hx : RI w (.agg #[.int .i64 s, .bool b, .slice A2 n2 c2]) x) (hr2 : RdE eltR w E ys) (hy : RI w (.agg #[.int .i64 t, .bool d, .slice E2 m2 f2]) y)
    (hv : v < zs.length) (h0 : ∀ i, i < v → ys.getD i 0 = 0) (h1 : 0 < ys.getD v 0) (hz : zs.getD v 0 ≠ 0) (hb1 : (∀ z, z ∈ zs → rl z ≤ 100000) ∧ rl x ≤ 100000) (hb2 : (∀ z, z ∈ ys → rl z ≤ 100000) ∧ rl y ≤ 100000) :
    Calls Tryz.prog 99 #[.agg #[.slice A zs.length c, .int .i64 s, .bool b, .slice A2 n2 c2], .agg #[.slice E ys.length f, .int .i64 t, .bool d, .slice E2 m2 f2]] w fun e w' => ∃ u, e = .returned u ∧ RowQ w w' u (primF (List.zipWith (· + ·) (zs.map (· * ys.getD v 0)) (ys.map (· * -(zs.getD v 0))), x * ys.getD v 0 + y * -(zs.getD v 0))).1 (primF (List.zipWith (· + ·) (zs.map (· * ys.getD v 0)) (ys.map (· * -(zs.getD v 0))), x * ys.getD v 0 + y * -(zs.getD v 0))).2 ∧ Up w w' := by
  have HLD := Lib.hid (fun W (hu : Up w W) => refLead_any E E2 f f2 m2 v t d ys W (by omega) (hr2.up hu) (by omega) h0 (by omega))
  have HSG := Lib.hid (fun W u z (h : RI W u z) => refSign_any u z W h)
  have HZ := Lib.hid hz
  have HRA := Lib.hid (And.intro hr hx)
  have HRB := Lib.hid (And.intro hr2 hy)
  have HYP := Lib.hid h1
  have HVL := Lib.hid (show v < ys.length by omega)
  have HLL := Lib.hid hl
  have HB := Lib.hid (And.intro hb1 hb2)
  rw [hl] at HLD ⊢
  clear hr hx hr2 hy h0 h1 hl hz hb1 hb2
  go_enter Tryz.func99, Tryz.ntmps99
  have hq0 := CellQ.new w (.slice A zs.length c) (.slice A2 n2 c2) s b
  have hp0 := CellQ.new (w.alloc (.cells #[.slice A zs.length c, .int .i64 s, .bool b, .slice A2 n2 c2] 59)) (.slice E zs.length f) (.slice E2 m2 f2) t d
  have hr0 := CellQ.new ((w.alloc (.cells #[.slice A zs.length c, .int .i64 s, .bool b, .slice A2 n2 c2] 59)).alloc (.cells #[.slice E zs.length f, .int .i64 t, .bool d, .slice E2 m2 f2] 59)) (.slice none 0 0) (.slice none 0 0) 0 false
  rw [size_alloc] at hp0
  rw [size_alloc, size_alloc] at hr0
  have HU1 := Lib.hid (Up.alloc w (.cells #[.slice A zs.length c, .int .i64 s, .bool b, .slice A2 n2 c2] 59))
  have HU2 := Lib.hid (Up.alloc (w.alloc (.cells #[.slice A zs.length c, .int .i64 s, .bool b, .slice A2 n2 c2] 59)) (.cells #[.slice E zs.length f, .int .i64 t, .bool d, .slice E2 m2 f2] 59))
  have HU3 := Lib.hid (Up.alloc ((w.alloc (.cells #[.slice A zs.length c, .int .i64 s, .bool b, .slice A2 n2 c2] 59)).alloc (.cells #[.slice E zs.length f, .int .i64 t, .bool d, .slice E2 m2 f2] 59)) (.cells #[.slice none 0 0, .int .i64 0, .bool false, .slice none 0 0] 59))
  have HQ0 := Lib.hid (hq0.up (HU2.out.trans HU3.out))
  have HP0 := Lib.hid (hp0.up HU3.out)
  have HR0 := Lib.hid hr0
  have HUW := Lib.hid (HU1.out.trans (HU2.out.trans HU3.out))
  obtain ⟨q0, q1, q2, q3, -, lq⟩ := hq0.facts
  clear hq0 hp0 hr0
  go_wp2_with fail
  generalize ((w.alloc (.cells #[.slice A zs.length c, .int .i64 s, .bool b, .slice A2 n2 c2] 59)).alloc (.cells #[.slice E zs.length f, .int .i64 t, .bool d, .slice E2 m2 f2] 59)).alloc (.cells #[.slice none 0 0, .int .i64 0, .bool false, .slice none 0 0] 59) = wB at *
  obtain ⟨g0, hg0⟩ : ∃ g0, g0 = w.heap.size := ⟨_, rfl⟩
  obtain ⟨g1, hg1⟩ : ∃ g1, g1 = w.heap.size + 1 := ⟨_, rfl⟩
  obtain ⟨g2, hg2⟩ : ∃ g2, g2 = w.heap.size + 1 + 1 := ⟨_, rfl⟩
  have HG2 := Lib.hid (show w.heap.size ≤ g2 ∧ g0 ≠ g2 ∧ g1 ≠ g2 by omega)
  rw [← hg0] at HQ0
  rw [← hg1] at HP0
  rw [← hg2] at HR0
  rw [← hg2, ← hg1, ← hg0]
  clear hg0 hg1 hg2 q0 q1 q2 q3 lq HU1 HU2 HU3
  refine Calls.mono (HLD.out _ HUW.out) ?_
  rintro e w1 ⟨rfl, hu⟩
  have HUA := Lib.hid (HUW.out.trans hu)
  have HQ1 := Lib.hid (HQ0.out.up hu)
  have HP1 := Lib.hid (HP0.out.up hu)
  have HR1 := Lib.hid (HR0.out.up hu)
  clear hu HQ0 HP0 HR0 HUW HLD
  obtain ⟨b9, off, cs, rfl, hbb, ⟨t1, d1, D1, m1, j1, rfl, hzz⟩, hcell⟩ := (HRA.out.1.up HUA.out).at_ hv
  have e0 := hcell 0 _ rfl
  have e1 := hcell 1 _ rfl
  have e2 := hcell 2 _ rfl
  have hgd : zs.getD v 0 = zs[v] := by rw [List.getD_eq_getElem?_getD, List.getElem?_eq_getElem hv]; rfl
  have HZI := Lib.hid hzz.ri
  rw [← hgd] at HZI
  clear hcell hzz hgd
  simp only [eltR, Nat.add_zero] at e0 e1 e2
  obtain ⟨q0, q1, q2, q3, -, lq⟩ := HQ1.out.facts
  go_wp2_with fail
  refine Calls.mono (HSG.out _ _ _ HZI.out) ?_
  rintro e w2 ⟨rfl, hu⟩
  have HUB := Lib.hid (HUA.out.trans hu)
  have HQ2 := Lib.hid (HQ1.out.up hu)
  have HP2 := Lib.hid (HP1.out.up hu)
  have HR2 := Lib.hid (HR1.out.up hu)
  have HZ2 := Lib.hid (HZI.out.up hu)
  obtain ⟨zv, hzv⟩ : ∃ zv, zv = zs.getD v 0 := ⟨_, rfl⟩
  obtain ⟨yv, hyv⟩ : ∃ yv, yv = ys.getD v 0 := ⟨_, rfl⟩
  rw [← hzv] at HZ HZ2 HZI ⊢
  rw [← hyv] at HYP
  obtain ⟨b8, off8, cs8, rfl, hbb8, ⟨t8, d8, D8, m8, j8, rfl, hy8⟩, hcell8⟩ := (HRB.out.1.up HUB.out).at_ HVL.out
  have k0 := hcell8 0 _ rfl
  have k1 := hcell8 1 _ rfl
  have k2 := hcell8 2 _ rfl
  have hgd : ys.getD v 0 = ys[v]'HVL.out := by rw [List.getD_eq_getElem?_getD, List.getElem?_eq_getElem HVL.out]; rfl
  have HYI := Lib.hid hy8.ri
  rw [← hgd, ← hyv] at HYI
  simp only [eltR, Nat.add_zero] at k0 k1 k2
  have lb9 := Nat.lt_of_lt_of_le hbb hu.size
  have e0' := (hu.cells.1 _ _ hbb).trans e0
  have e1' := (hu.cells.1 _ _ hbb).trans e1
  have e2' := (hu.cells.1 _ _ hbb).trans e2
  have HZE := Lib.hid hzv
  have HYE := Lib.hid hyv
  clear hcell8 hy8 hgd hzv hyv hu e0 e1 e2 hbb q0 q1 q2 q3 lq HQ1 HP1 HR1 HUA HZI
  have hsg : (zv.sign == 0) = false := by
    have := HZ.out
    simp only [beq_eq_false_iff_ne, ne_eq]
    intro h
    exact this (Int.sign_eq_zero_iff_zero.1 h)
  obtain ⟨q0, q1, q2, q3, -, lq⟩ := HQ2.out.facts
  obtain ⟨p0, p1, p2, p3, -, lp⟩ := HP2.out.facts
  have HMN := Lib.hid (fun W u (h : RI W u zv) => refMinus_any u zv W h)
  go_wp2_with fail
  have HKN := Lib.hid (CellI.new w2 t8 d8 (.slice D8 m8 j8))
  have HUK := Lib.hid (Up.alloc w2 (.cells #[.int .i64 t8, .bool d8, .slice D8 m8 j8] 48))
  obtain ⟨wK, hwK⟩ : ∃ wK, wK = w2.alloc (.cells #[.int .i64 t8, .bool d8, .slice D8 m8 j8] 48) := ⟨_, rfl⟩
  obtain ⟨gk, hgk⟩ : ∃ gk, gk = w2.heap.size := ⟨_, rfl⟩
  have HGK := Lib.hid (show gk ≠ g2 from by
    obtain ⟨-, -, -, -, -, lr⟩ := HR2.out.facts
    omega)
  rw [← hwK] at HKN HUK ⊢
  rw [← hgk] at HKN ⊢
  clear hwK hgk e0' e1' e2' k0 k1 k2 q0 q1 q2 q3 lq p0 p1 p2 p3 lp hbb8 lb9
  refine Calls.mono (HMN.out _ _ (HZ2.out.up HUK.out)) ?_
  rintro e w3 ⟨v3, rfl, hv3, hu⟩
  obtain ⟨s3, b3, A3, n3, c3, rfl, -⟩ := hv3.open_
  have HU3 := Lib.hid hu
  have HM3 := Lib.hid hv3
  have HK3 := Lib.hid (HKN.out.up hu)
  clear hu hv3
  obtain ⟨k0, k1, k2, lk⟩ := HK3.out.facts
  go_wp2_with fail
  have HMC := Lib.hid (CellI.new w3 s3 b3 (.slice A3 n3 c3))
  have HUM := Lib.hid (Up.alloc w3 (.cells #[.int .i64 s3, .bool b3, .slice A3 n3 c3] 48))
  obtain ⟨wM, hwM⟩ : ∃ wM, wM = w3.alloc (.cells #[.int .i64 s3, .bool b3, .slice A3 n3 c3] 48) := ⟨_, rfl⟩
  obtain ⟨gm, hgm⟩ : ∃ gm, gm = w3.heap.size := ⟨_, rfl⟩
  have HGM := Lib.hid (show gm ≠ g2 from by
    obtain ⟨-, -, -, -, -, lr⟩ := (HR2.out.up (HUK.out.trans HU3.out)).facts
    omega)
  rw [← hwM] at HMC HUM ⊢
  rw [← hgm] at HMC ⊢
  clear hwM hgm k0 k1 k2 lk
  have HY3 := Lib.hid (HYI.out.up (HUK.out.trans (HU3.out.trans HUM.out)))
  refine Calls.mono (HSG.out _ _ _ HY3.out) ?_
  rintro e w4 ⟨rfl, hu⟩
  have HUZ := Lib.hid (HUK.out.trans (HU3.out.trans (HUM.out.trans hu)))
  have HK4 := Lib.hid (HK3.out.up (HUM.out.trans hu))
  have HMC4 := Lib.hid (HMC.out.up hu)
  have HM4 := Lib.hid (HM3.out.up (HUM.out.trans hu))
  have HY4 := Lib.hid (HY3.out.up hu)
  rw [Int.sign_eq_one_of_pos HYP.out]
  have HQ4 := Lib.hid (HQ2.out.up HUZ.out)
  have HP4 := Lib.hid (HP2.out.up HUZ.out)
  have HR4 := Lib.hid (HR2.out.up HUZ.out)
  have HU4 := Lib.hid (HUB.out.trans HUZ.out)
  clear hu HUK HKN HU3 HM3 HK3 HMC HUM HY3 HUZ HQ2 HP2 HR2 HUB HZ2 HYI
  have hyb : rl yv ≤ 100000 := by
    rw [HYE.out]
    rcases getD_mem0 ys v with h | h
    · rw [h]; exact Nat.le_trans (rl_int (by omega) (by omega)) (by omega)
    · exact HB.out.2.1 _ h
  have hzb : rl (-zv) ≤ 100000 := by
    rw [rl_negate, HZE.out]
    rcases getD_mem0 zs v with h | h
    · rw [h]; exact Nat.le_trans (rl_int (by omega) (by omega)) (by omega)
    · exact HB.out.1.1 _ h
  have HT1 := Lib.hid (fun W (hu : Up w4 W) => refRowTimes_any _ A2 D8 c n2 c2 m8 j8 s t8 b d8 zs x yv W (by omega) (HRA.out.1.up (HU4.out.trans hu)) (HRA.out.2.up (HU4.out.trans hu)) (HY4.out.up hu) (fun z hz => by have := HB.out.1.1 z hz; omega) (by have := HB.out.1.2; omega) (by omega))
  have HT2 := Lib.hid (fun W (hu : Up w4 W) => (show Calls Tryz.prog 93 #[.agg #[.slice (some ⟨b8, off8, none⟩) zs.length f, .int .i64 t, .bool d, .slice E2 m2 f2], .agg #[.int .i64 s3, .bool b3, .slice A3 n3 c3]] W fun e w' => ∃ u, e = .returned u ∧ RowQ W w' u (ys.map (· * -zv)) (y * -zv) ∧ Up W w' from by
    have h9 := refRowTimes_any _ E2 A3 f m2 f2 n3 c3 t s3 d b3 ys y (-zv) W (by have := HLL.out; omega) (HRB.out.1.up (HU4.out.trans hu)) (HRB.out.2.up (HU4.out.trans hu)) (HM4.out.up hu) (fun z hz => by have := HB.out.2.1 z hz; omega) (by have := HB.out.2.2; omega) (by omega)
    rw [HLL.out] at h9
    exact h9))
  have hb3 : ∀ z, z ∈ zs.map (· * yv) → rl z ≤ 200000 := fun z hz => by
    obtain ⟨q, hq, rfl⟩ := List.mem_map.1 hz
    exact rl_mul (HB.out.1.1 q hq) hyb (by omega)
  have hb4 : ∀ z, z ∈ ys.map (· * -zv) → rl z ≤ 200000 := fun z hz => by
    obtain ⟨q, hq, rfl⟩ := List.mem_map.1 hz
    exact rl_mul (HB.out.2.1 q hq) hzb (by omega)
  have hb5 : rl (x * yv) ≤ 200000 := rl_mul HB.out.1.2 hyb (by omega)
  have hb6 : rl (y * -zv) ≤ 200000 := rl_mul HB.out.2.2 hzb (by omega)
  have hb7 : ∀ z, z ∈ List.zipWith (· + ·) (zs.map (· * yv)) (ys.map (· * -zv)) → rl z ≤ 200001 := fun z hz => by
    obtain ⟨k, hk, rfl⟩ := List.mem_iff_getElem.1 hz
    rw [List.getElem_zipWith]
    exact rl_add (hb3 _ (List.getElem_mem _)) (hb4 _ (List.getElem_mem _)) (by omega)
  have hlz : (zs.map (· * yv)).length = zs.length := List.length_map _
  have hly : (ys.map (· * -zv)).length = zs.length := by rw [List.length_map, HLL.out]
  have HPL := Lib.hid (fun W A5 c5 s5 b5 A6 n6 c6 A7 c7 s7 b7 A8 n8 c8 (h1 : RdE eltR W A5 (zs.map (· * yv))) (h2 : RI W (.agg #[.int .i64 s5, .bool b5, .slice A6 n6 c6]) (x * yv)) (h3 : RdE eltR W A7 (ys.map (· * -zv))) (h4 : RI W (.agg #[.int .i64 s7, .bool b7, .slice A8 n8 c8]) (y * -zv)) => (show Calls Tryz.prog 92 #[.agg #[.slice A5 zs.length c5, .int .i64 s5, .bool b5, .slice A6 n6 c6], .agg #[.slice A7 zs.length c7, .int .i64 s7, .bool b7, .slice A8 n8 c8]] W fun e w' => ∃ u, e = .returned u ∧ RowQ W w' u (List.zipWith (· + ·) (zs.map (· * yv)) (ys.map (· * -zv))) (x * yv + y * -zv) ∧ Up W w' from by
    have h9 := refRowPlus_any A5 A6 A7 A8 c5 n6 c6 c7 n8 c8 s5 s7 b5 b7 (zs.map (· * yv)) (ys.map (· * -zv)) (x * yv) (y * -zv) W (by rw [hlz]; omega) (by rw [hlz, hly]) h1 h3 h2 h4 (fun z hz => by have := hb3 z hz; omega) (fun z hz => by have := hb4 z hz; omega) (by omega) (by omega)
    rw [hlz, hly] at h9
    exact h9))
  have hlf : (List.zipWith (· + ·) (zs.map (· * yv)) (ys.map (· * -zv))).length = zs.length := by rw [List.length_zipWith, hlz, hly]; omega
  have hb8 : rl (x * yv + y * -zv) ≤ 200001 := rl_add hb5 hb6 (by omega)
  obtain ⟨F, hF⟩ : ∃ F : List Int × Int, F = (List.zipWith (· + ·) (zs.map (· * yv)) (ys.map (· * -zv)), x * yv + y * -zv) := ⟨_, rfl⟩
  have hF1 : List.zipWith (· + ·) (zs.map (· * yv)) (ys.map (· * -zv)) = F.1 := by rw [hF]
  have hF2 : x * yv + y * -zv = F.2 := by rw [hF]
  rw [hF1] at hb7 hlf
  rw [hF2] at hb8
  have HFE := Lib.hid hF
  rw [hF1, hF2] at HPL
  have HFL := Lib.hid hlf
  have HPR := Lib.hid (fun W A5 c5 s5 b5 A6 n6 c6 (h0 : F.1.length ≤ c5) (h00 : c5 ≤ maxLen) (h1 : RdE eltR W A5 F.1) (h2 : RI W (.agg #[.int .i64 s5, .bool b5, .slice A6 n6 c6]) F.2) (hf : ∀ b off, A5 = some ⟨b, off, none⟩ → w4.heap.size ≤ b) (hu4 : Up w4 W) => (show Calls Tryz.prog 97 #[.agg #[.slice A5 zs.length c5, .int .i64 s5, .bool b5, .slice A6 n6 c6]] W fun e w' => ∃ u, e = .returned u ∧ RowQ w4 w' u (primF F).1 (primF F).2 ∧ Up W w' from by
    have h9 := refPrimedF A5 A6 c5 c6 n6 s5 b5 F W (by omega) h1 h2 (fun z hz => by have := hb7 z hz; omega) (by omega)
    rw [hlf] at h9
    refine Calls.mono h9 ?_
    rintro e w' ⟨u, rfl, h | h, hu⟩
    · obtain ⟨rfl, h5, h6, h7⟩ := h
      exact ⟨_, rfl, by rw [h5]; exact ⟨A5, c5, s5, b5, A6, n6, c6, by rw [hlf], h0, h00, h6, h7, hf⟩, hu⟩
    · obtain ⟨A9, c9, s9, b9, A10, n10, c10, rfl, k1, k2, k3, k4, k5⟩ := h
      exact ⟨_, rfl, ⟨A9, c9, s9, b9, A10, n10, c10, rfl, k1, k2, k3, k4, fun b off e => Nat.le_trans hu4.size (k5 b off e)⟩, hu⟩))
  clear hb3 hb4 hb5 hb6 hb7 hb8 hlz hly hlf hF hF1 hF2 hyb hzb HRA HRB HY4 HM4 HB HYP HZ HMN HSG
  go_upto_region 8 with fail
  obtain ⟨q0, q1, q2, q3, -, lq⟩ := HQ4.out.facts
  obtain ⟨p0, p1, p2, p3, -, lp⟩ := HP4.out.facts
  obtain ⟨k0, k1, k2, lk⟩ := HK4.out.facts
  obtain ⟨m0, m1', m2', lm⟩ := HMC4.out.facts
  obtain ⟨r0, r1, r2, r3, -, lr⟩ := HR4.out.facts
  obtain ⟨y0, y1, y2, y3⟩ := HR4.out.frz
  go_region_held3 (fun w' => w'.cell? ⟨g0, 0, none⟩ = some (.slice (some ⟨b9, off, none⟩) zs.length c) ∧ w'.cell? ⟨g0, 1, none⟩ = some (.int .i64 s) ∧ w'.cell? ⟨g0, 2, none⟩ = some (.bool b) ∧ w'.cell? ⟨g0, 3, none⟩ = some (.slice A2 n2 c2) ∧ w'.cell? ⟨gk, 0, none⟩ = some (.int .i64 t8) ∧ w'.cell? ⟨gk, 1, none⟩ = some (.bool d8) ∧ w'.cell? ⟨gk, 2, none⟩ = some (.slice D8 m8 j8) ∧ w'.cell? ⟨g1, 0, none⟩ = some (.slice (some ⟨b8, off8, none⟩) zs.length f) ∧ w'.cell? ⟨g1, 1, none⟩ = some (.int .i64 t) ∧ w'.cell? ⟨g1, 2, none⟩ = some (.bool d) ∧ w'.cell? ⟨g1, 3, none⟩ = some (.slice E2 m2 f2) ∧ w'.cell? ⟨gm, 0, none⟩ = some (.int .i64 s3) ∧ w'.cell? ⟨gm, 1, none⟩ = some (.bool b3) ∧ w'.cell? ⟨gm, 2, none⟩ = some (.slice A3 n3 c3)) ((first | exact ⟨q0, q1, q2, q3, k0, k1, k2, p0, p1, p2, p3, m0, m1', m2'⟩ | exact ⟨far4 q0 HG2.out.2.1 _ _ _ _, far4 q1 HG2.out.2.1 _ _ _ _, far4 q2 HG2.out.2.1 _ _ _ _, far4 q3 HG2.out.2.1 _ _ _ _, far4 k0 HGK.out _ _ _ _, far4 k1 HGK.out _ _ _ _, far4 k2 HGK.out _ _ _ _, far4 p0 HG2.out.2.2 _ _ _ _, far4 p1 HG2.out.2.2 _ _ _ _, far4 p2 HG2.out.2.2 _ _ _ _, far4 p3 HG2.out.2.2 _ _ _ _, far4 m0 HGM.out _ _ _ _, far4 m1' HGM.out _ _ _ _, far4 m2' HGM.out _ _ _ _⟩))
    ((first
      | (have HGUARD := HV5
         go_at_call 93
         refine Calls.mono (HT2.out _ (by (repeat (first | exact Below.refl _ _ | exact Hid.out (by assumption) | refine Up.trans ?_ (Up.drew _) | refine Up.trans ?_ (Up.drewN _ _) | refine Up.trans ?_ (Up.alloc _ _) | refine Up.trans ?_ (Hid.out (by assumption)))))) ?_
         rintro e w6 ⟨v6, rfl, hv, hu⟩
         have HU6 := Lib.hid hu
         obtain ⟨A7, c7, s7, b7, A8, n8, c8, rfl, -, -, h3, h4, -⟩ := hv
         have HV6 := Lib.hid (And.intro h3 h4)
         rw [List.length_map, HLL.out]
         obtain ⟨q0, q1, q2, q3, -, lq⟩ := (HQ4.out.up (w' := w6) (by (repeat (first | exact Below.refl _ _ | exact Hid.out (by assumption) | refine Up.trans ?_ (Up.drew _) | refine Up.trans ?_ (Up.drewN _ _) | refine Up.trans ?_ (Up.alloc _ _) | refine Up.trans ?_ (Hid.out (by assumption)))))).facts
         obtain ⟨p0, p1, p2, p3, -, lp⟩ := (HP4.out.up (w' := w6) (by (repeat (first | exact Below.refl _ _ | exact Hid.out (by assumption) | refine Up.trans ?_ (Up.drew _) | refine Up.trans ?_ (Up.drewN _ _) | refine Up.trans ?_ (Up.alloc _ _) | refine Up.trans ?_ (Hid.out (by assumption)))))).facts
         obtain ⟨k0, k1, k2, lk⟩ := (HK4.out.up (w' := w6) (by (repeat (first | exact Below.refl _ _ | exact Hid.out (by assumption) | refine Up.trans ?_ (Up.drew _) | refine Up.trans ?_ (Up.drewN _ _) | refine Up.trans ?_ (Up.alloc _ _) | refine Up.trans ?_ (Hid.out (by assumption)))))).facts
         obtain ⟨m0, m1', m2', lm⟩ := (HMC4.out.up (w' := w6) (by (repeat (first | exact Below.refl _ _ | exact Hid.out (by assumption) | refine Up.trans ?_ (Up.drew _) | refine Up.trans ?_ (Up.drewN _ _) | refine Up.trans ?_ (Up.alloc _ _) | refine Up.trans ?_ (Hid.out (by assumption)))))).facts
         clear hu h3 h4)
      | (go_at_call 93
         refine Calls.mono (HT1.out _ (by (repeat (first | exact Below.refl _ _ | exact Hid.out (by assumption) | refine Up.trans ?_ (Up.drew _) | refine Up.trans ?_ (Up.drewN _ _) | refine Up.trans ?_ (Up.alloc _ _) | refine Up.trans ?_ (Hid.out (by assumption)))))) ?_
         rintro e w5 ⟨v5, rfl, hv, hu⟩
         have HU5 := Lib.hid hu
         obtain ⟨A5, c5, s5, b5, A6, n6, c6, rfl, -, -, h3, h4, -⟩ := hv
         have HV5 := Lib.hid (And.intro h3 h4)
         rw [List.length_map]
         obtain ⟨q0, q1, q2, q3, -, lq⟩ := (HQ4.out.up (w' := w5) (by (repeat (first | exact Below.refl _ _ | exact Hid.out (by assumption) | refine Up.trans ?_ (Up.drew _) | refine Up.trans ?_ (Up.drewN _ _) | refine Up.trans ?_ (Up.alloc _ _) | refine Up.trans ?_ (Hid.out (by assumption)))))).facts
         obtain ⟨p0, p1, p2, p3, -, lp⟩ := (HP4.out.up (w' := w5) (by (repeat (first | exact Below.refl _ _ | exact Hid.out (by assumption) | refine Up.trans ?_ (Up.drew _) | refine Up.trans ?_ (Up.drewN _ _) | refine Up.trans ?_ (Up.alloc _ _) | refine Up.trans ?_ (Hid.out (by assumption)))))).facts
         obtain ⟨k0, k1, k2, lk⟩ := (HK4.out.up (w' := w5) (by (repeat (first | exact Below.refl _ _ | exact Hid.out (by assumption) | refine Up.trans ?_ (Up.drew _) | refine Up.trans ?_ (Up.drewN _ _) | refine Up.trans ?_ (Up.alloc _ _) | refine Up.trans ?_ (Hid.out (by assumption)))))).facts
         obtain ⟨m0, m1', m2', lm⟩ := (HMC4.out.up (w' := w5) (by (repeat (first | exact Below.refl _ _ | exact Hid.out (by assumption) | refine Up.trans ?_ (Up.drew _) | refine Up.trans ?_ (Up.drewN _ _) | refine Up.trans ?_ (Up.alloc _ _) | refine Up.trans ?_ (Hid.out (by assumption)))))).facts
         clear hu h3 h4)
      | (go_at_call 92
         refine Calls.mono (HPL.out _ _ _ _ _ _ _ _ _ _ _ _ _ _ _ (HV5.out.1.up HU6.out) (HV5.out.2.up HU6.out) HV6.out.1 HV6.out.2) ?_
         rintro e w7 ⟨v7, rfl, hv, hu⟩
         have HU7 := Lib.hid hu
         obtain ⟨A9, c9, s9, b9', A10, n10, c10, rfl, h1, h2, h3, h4, h5⟩ := hv
         have HF7 := Lib.hid h5
         have HV7 := Lib.hid (And.intro (And.intro h1 h2) (And.intro h3 h4))
         have HS7 := Lib.hid ((show Up w4 w6 by (repeat (first | exact Below.refl _ _ | exact Hid.out (by assumption) | refine Up.trans ?_ (Up.drew _) | refine Up.trans ?_ (Up.drewN _ _) | refine Up.trans ?_ (Up.alloc _ _) | refine Up.trans ?_ (Hid.out (by assumption))))).size)
         rw [HFL.out]
         obtain ⟨q0, q1, q2, q3, -, lq⟩ := (HQ4.out.up (w' := w7) (by (repeat (first | exact Below.refl _ _ | exact Hid.out (by assumption) | refine Up.trans ?_ (Up.drew _) | refine Up.trans ?_ (Up.drewN _ _) | refine Up.trans ?_ (Up.alloc _ _) | refine Up.trans ?_ (Hid.out (by assumption)))))).facts
         obtain ⟨p0, p1, p2, p3, -, lp⟩ := (HP4.out.up (w' := w7) (by (repeat (first | exact Below.refl _ _ | exact Hid.out (by assumption) | refine Up.trans ?_ (Up.drew _) | refine Up.trans ?_ (Up.drewN _ _) | refine Up.trans ?_ (Up.alloc _ _) | refine Up.trans ?_ (Hid.out (by assumption)))))).facts
         obtain ⟨k0, k1, k2, lk⟩ := (HK4.out.up (w' := w7) (by (repeat (first | exact Below.refl _ _ | exact Hid.out (by assumption) | refine Up.trans ?_ (Up.drew _) | refine Up.trans ?_ (Up.drewN _ _) | refine Up.trans ?_ (Up.alloc _ _) | refine Up.trans ?_ (Hid.out (by assumption)))))).facts
         obtain ⟨m0, m1', m2', lm⟩ := (HMC4.out.up (w' := w7) (by (repeat (first | exact Below.refl _ _ | exact Hid.out (by assumption) | refine Up.trans ?_ (Up.drew _) | refine Up.trans ?_ (Up.drewN _ _) | refine Up.trans ?_ (Up.alloc _ _) | refine Up.trans ?_ (Hid.out (by assumption)))))).facts
         clear hu h1 h2 h3 h4 h5)
      | (go_at_call 97
         refine Calls.mono (HPR.out _ _ _ _ _ _ _ _ HV7.out.1.1 HV7.out.1.2 HV7.out.2.1 HV7.out.2.2 (fun b off e => Nat.le_trans HS7.out (HF7.out b off e)) (by (repeat (first | exact Below.refl _ _ | exact Hid.out (by assumption) | refine Up.trans ?_ (Up.drew _) | refine Up.trans ?_ (Up.drewN _ _) | refine Up.trans ?_ (Up.alloc _ _) | refine Up.trans ?_ (Hid.out (by assumption)))))) ?_
         rintro e w8 ⟨v8, rfl, hv, hu⟩
         have HU8 := Lib.hid hu
         obtain ⟨A11, c11, s11, b11, A12, n12, c12, rfl, h1, h2, h3, h4, h5⟩ := hv
         have HV8 := Lib.hid (And.intro (And.intro h1 h2) (And.intro (And.intro h3 h4) h5))
         obtain ⟨q0, q1, q2, q3, -, lq⟩ := (HQ4.out.up (w' := w8) (by (repeat (first | exact Below.refl _ _ | exact Hid.out (by assumption) | refine Up.trans ?_ (Up.drew _) | refine Up.trans ?_ (Up.drewN _ _) | refine Up.trans ?_ (Up.alloc _ _) | refine Up.trans ?_ (Hid.out (by assumption)))))).facts
         obtain ⟨p0, p1, p2, p3, -, lp⟩ := (HP4.out.up (w' := w8) (by (repeat (first | exact Below.refl _ _ | exact Hid.out (by assumption) | refine Up.trans ?_ (Up.drew _) | refine Up.trans ?_ (Up.drewN _ _) | refine Up.trans ?_ (Up.alloc _ _) | refine Up.trans ?_ (Hid.out (by assumption)))))).facts
         obtain ⟨k0, k1, k2, lk⟩ := (HK4.out.up (w' := w8) (by (repeat (first | exact Below.refl _ _ | exact Hid.out (by assumption) | refine Up.trans ?_ (Up.drew _) | refine Up.trans ?_ (Up.drewN _ _) | refine Up.trans ?_ (Up.alloc _ _) | refine Up.trans ?_ (Hid.out (by assumption)))))).facts
         obtain ⟨m0, m1', m2', lm⟩ := (HMC4.out.up (w' := w8) (by (repeat (first | exact Below.refl _ _ | exact Hid.out (by assumption) | refine Up.trans ?_ (Up.drew _) | refine Up.trans ?_ (Up.drewN _ _) | refine Up.trans ?_ (Up.alloc _ _) | refine Up.trans ?_ (Hid.out (by assumption)))))).facts
         obtain ⟨r0, r1, r2, r3, -, lr⟩ := (HR4.out.up (w' := w8) (by (repeat (first | exact Below.refl _ _ | exact Hid.out (by assumption) | refine Up.trans ?_ (Up.drew _) | refine Up.trans ?_ (Up.drewN _ _) | refine Up.trans ?_ (Up.alloc _ _) | refine Up.trans ?_ (Hid.out (by assumption)))))).facts
         obtain ⟨y0, y1, y2, y3⟩ := (HR4.out.up (w' := w8) (by (repeat (first | exact Below.refl _ _ | exact Hid.out (by assumption) | refine Up.trans ?_ (Up.drew _) | refine Up.trans ?_ (Up.drewN _ _) | refine Up.trans ?_ (Up.alloc _ _) | refine Up.trans ?_ (Hid.out (by assumption)))))).frz
         clear hu h1 h2 h3 h4 h5)))
  have HU48 := Lib.hid (show Up w4 w8 by (repeat (first | exact Below.refl _ _ | exact Hid.out (by assumption) | refine Up.trans ?_ (Up.drew _) | refine Up.trans ?_ (Up.drewN _ _) | refine Up.trans ?_ (Up.alloc _ _) | refine Up.trans ?_ (Hid.out (by assumption)))))
  have HR8 := Lib.hid (HR4.out.up HU48.out)
  have HFF := Lib.hid ((HR8.out.put (.slice A11 (primF F).1.length c11) s11 b11 (.slice A12 n12 c12)).facts)
  have HAW := Lib.hid (show (primF F).1 ≠ [] → Away A11 g2 from fun hne b' off' e e2 => by
    have h2 := HV8.out.2.2 b' off' e
    have h3 := HR4.out.lt
    omega)
  have HLO := Lib.hid (HV8.out.2.1.1.putRow HR8.out (fun x e => by cases e) HAW.out (.slice A11 (primF F).1.length c11) (fun x e => by cases e) s11 b11 (.slice A12 n12 c12))
  have HRO := Lib.hid (HV8.out.2.1.2.ria.putRow HR8.out (fun x e => by cases e) (.slice A11 (primF F).1.length c11) (fun x e => by cases e) s11 b11 (.slice A12 n12 c12))
  have HUF := Lib.hid ((HU4.out.trans HU48.out).putQ HG2.out.1 (.slice A11 (primF F).1.length c11) s11 b11 (.slice A12 n12 c12))
  have HFR := Lib.hid (fun (b off : Nat) (e : A11 = some ⟨b, off, none⟩) => Nat.le_trans HU4.out.size (HV8.out.2.2 b off e))
  go_wp2
  obtain ⟨z0, z1, z2, z3, -, -⟩ := HFF.out
  simp only [rowSet] at z0 z1 z2 z3
  refine bodyPost_ret (by simp [results, Tryz.results99, go_sem, z0, z1, z2, z3]; try rfl) rfl ?_
  have hz := HZE.out
  have hy := HYE.out
  have hf := HFE.out
  subst hz
  subst hy
  subst hf
  exact ⟨_, rfl, ⟨A11, c11, s11, b11, A12, n12, c12, rfl, HV8.out.1.1, HV8.out.1.2, HLO.out, HRO.out.ri, HFR.out⟩, HUF.out⟩
end Go.Proofs.YtacbjbnocepnaaaGreatDoor

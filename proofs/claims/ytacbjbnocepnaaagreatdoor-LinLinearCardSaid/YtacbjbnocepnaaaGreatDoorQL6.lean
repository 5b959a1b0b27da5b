/- What a further law needs. -/
import Derived.Test.YtacbjbnocepnaaaGreatDoorQL5
import Derived.Test.YtacbjbnocepnaaaGreatDoorQHM
namespace Go.Proofs.YtacbjbnocepnaaaGreatDoor
open Go.RowKit Fm
theorem linS_QB (xs : List (Int × Int)) (fs : List (List Int × Int)) (ms : List (Int × Int)) (hl : fs.length = ms.length) (hf : ∀ f, f ∈ fs → QB (valQ f xs) 80) (hm : okAll ms = true) : ∀ a, a ≤ fs.length → QB (linS xs (fs.take a) (ms.take a)) (84 * a + 1) := by
  intro a
  induction a with
  | zero => intro _; exact QB.zero
  | succ a ih =>
    intro ha
    have h1 : a < fs.length := by omega
    have h2 : a < ms.length := by omega
    rw [linS_next xs fs ms a h1 h2]
    exact (ih (by omega)).add ((ok_QB (okAll_get hm h2)).mul (hf _ (List.getElem_mem h1)) (Nat.le_refl _)) (by omega)
theorem rat_cancel {K : Int} (hK : 0 < K) (S : Rat) : (K : Rat) * S / (K : Rat) = S := by
  have h0 : (K : Rat) ≠ 0 := by
    intro h
    have := Rat.intCast_inj.1 (show ((K : Int) : Rat) = ((0 : Int) : Rat) from h)
    omega
  rw [Rat.div_def, Rat.mul_comm (K : Rat), Rat.mul_assoc, Rat.mul_inv_cancel _ h0, Rat.mul_one]
set_option maxHeartbeats 8000000 in
set_option maxRecDepth 10000 in
theorem linLinearLaw_any (A B C : Option Addr) (c d e : Nat) (n : Int) (fs : List (List Int × Int)) (ms xs : List (Int × Int)) (w : World) (hc : fs.length ≤ c) (hcm : c ≤ maxLen) (hr : RdE eltForm w A fs) (hd : ms.length ≤ d) (hdm : d ≤ maxLen) (hs : RdN w B ms) (hx : ∀ p, p ∈ ms → Rng p.1 p.2) (he : xs.length ≤ e) (hem : e ≤ maxLen) (ho : RdN w C xs) (hy : ∀ p, p ∈ xs → Rng p.1 p.2) (ht : Tab w) :
    Calls Tryz.prog 6 #[.int .i64 n, .slice A fs.length c, .slice B ms.length d, .slice C xs.length e] w fun e w' => e = .returned (.bool true) ∧ Up w w' := by
  obtain ⟨q, K, E, hcomb, hE⟩ := linCombine_all A B c d n fs ms w hc hcm hr hd hdm hs hx ht
  have HCB := Lib.hid hcomb
  have HE := Lib.hid hE
  have hl1 := len_le hc hcm
  have hl2 := len_le hd hdm
  have hl3 := len_le he hem
  have HFW := Lib.hid (fun W (hu : Up w W) => few_all A c fs W hl1 (hr.up hu))
  have HVP := Lib.hid (fun W (hu : Up w W) => refValidPoint_any C e n xs W he hem (ho.up hu) hy)
  have HAW := Lib.hid (fun W (hu : Up w W) => linAwake_any W (ht.up hu))
  have HRD := Lib.hid (And.intro hr (And.intro hs ho))
  have HRG := Lib.hid (And.intro hx hy)
  have HLE := Lib.hid (And.intro he (And.intro hem (And.intro hd hdm)))
  have HVP2 : Hid (validP n xs = true → okAll xs = true ∧ (xs.length : Int) = n) := Lib.hid fun h => ⟨validP_ok h, validP_len2 h⟩
  have HLL := Lib.hid (And.intro hl1 (And.intro hl2 hl3))
  clear hcomb hE hr hs ho hx hy hc hcm hd hdm he hem
  have HEV : Hid (validP n xs = true → E = 0 → ∃ m : Nat, n = m ∧ m ≤ 8 ∧ q.1.length = m ∧ 0 < K ∧ okAll ms = true ∧ fs.length = ms.length ∧ fs.length ≤ 120 ∧ xs.length = m ∧ validFs n fs = true ∧ valQ q xs = (K : Rat) * linS xs fs ms ∧ q.1.all limI = true ∧ limI q.2 = true ∧ limI K = true) := Lib.hid fun h1 h2 => by
    rcases HE.out with ⟨h3, -⟩ | ⟨-, m, rfl, h4, h5, h6, h7, rfl, rfl⟩
    · exact absurd h2 h3
    · have hxl : xs.length = m := by have := (HVP2.out h1).2; omega
      obtain ⟨m', hm', hm8, hf120⟩ := validFs_dim h4
      have hf : ∀ f, f ∈ fs → f.1.length = xs.length := fun f hf => by
        have := validF_len (validFs_mem h4 f hf)
        simp [rowF] at this
        omega
      obtain ⟨k1, k2, k3⟩ := comb_value m fs ms xs h6 hf hxl h7
      have ho : oneOk (sumsN fs ms (m + 1)) = true := by
        unfold combOk at h7
        rw [Bool.and_eq_true] at h7
        exact h7.2
      have ho2 := ho
      unfold oneOk at ho2
      rw [Bool.and_eq_true] at ho2
      have e1 : combF m fs ms = ((topsN (sumsN fs ms (m + 1))).take m, (topsN (sumsN fs ms (m + 1))).getD m 0) := by unfold combF oneF; rw [h7, ho]; rfl
      have e2 : combK m fs ms = (lowN (sumsN fs ms (m + 1)) : Nat) := by unfold combK oneK; rw [h7, ho]; rfl
      refine ⟨m, rfl, by omega, k2, k1, h5, h6, hf120, hxl, h4, k3, ?_, ?_, ?_⟩
      · rw [e1, List.all_eq_true]
        exact fun y hy => (List.all_eq_true.1 ho2.1) y (List.mem_of_mem_take hy)
      · rw [e1]
        rcases getD_mem0 (topsN (sumsN fs ms (m + 1))) m with h0 | h0
        · simp only; rw [h0]; decide
        · exact (List.all_eq_true.1 ho2.1) _ h0
      · rw [e2]; exact ho2.2
  have HVP3 : Hid (validP n xs = true → okAll xs = true) := Lib.hid fun h => validP_ok h
  generalize fewF fs = few at *
  generalize hvp : validP n xs = vp at *
  clear hvp
  go_enter Tryz.func6, Tryz.ntmps6
  go_wp2_with fail
  refine Calls.mono (HFW.out _ (by (repeat (first | exact Below.refl _ _ | exact Hid.out (by assumption) | refine Up.trans ?_ (Up.drew _) | refine Up.trans ?_ (Up.drewN _ _) | refine Up.trans ?_ (Up.alloc _ _) | refine Up.trans ?_ (Hid.out (by assumption)))))) ?_
  rintro e0 w1 ⟨rfl, hu⟩
  have HU1 := Lib.hid hu
  clear hu
  cases few
  · go_wp2_with fail
    refine Calls.mono (HAW.out _ (by (repeat (first | exact Below.refl _ _ | exact Hid.out (by assumption) | refine Up.trans ?_ (Up.drew _) | refine Up.trans ?_ (Up.drewN _ _) | refine Up.trans ?_ (Up.alloc _ _) | refine Up.trans ?_ (Hid.out (by assumption)))))) ?_
    rintro e0 w2 ⟨rfl, hu⟩
    go_wp2
    go_ret
    exact ⟨rfl, HU1.out.trans hu⟩
  by_cases h140 : ms.length ≤ 140
  · have i0 : ¬ (140 : Int) < (ms.length : Int) := by omega
    clear h140
    go_wp2_with fail
    refine Calls.mono (HVP.out _ (by (repeat (first | exact Below.refl _ _ | exact Hid.out (by assumption) | refine Up.trans ?_ (Up.drew _) | refine Up.trans ?_ (Up.drewN _ _) | refine Up.trans ?_ (Up.alloc _ _) | refine Up.trans ?_ (Hid.out (by assumption)))))) ?_
    rintro e0 w2 ⟨rfl, hu⟩
    have HU2 := Lib.hid (HU1.out.trans hu)
    clear hu HU1
    cases vp
    · go_wp2_with fail
      refine Calls.mono (HAW.out _ (by (repeat (first | exact Below.refl _ _ | exact Hid.out (by assumption) | refine Up.trans ?_ (Up.drew _) | refine Up.trans ?_ (Up.drewN _ _) | refine Up.trans ?_ (Up.alloc _ _) | refine Up.trans ?_ (Hid.out (by assumption)))))) ?_
      rintro e0 w3 ⟨rfl, hu⟩
      go_wp2
      go_ret
      exact ⟨rfl, HU2.out.trans hu⟩
    · go_wp2_with fail
      refine Calls.mono (HCB.out _ (by (repeat (first | exact Below.refl _ _ | exact Hid.out (by assumption) | refine Up.trans ?_ (Up.drew _) | refine Up.trans ?_ (Up.drewN _ _) | refine Up.trans ?_ (Up.alloc _ _) | refine Up.trans ?_ (Hid.out (by assumption)))))) ?_
      rintro e0 w3 ⟨A3, c3, rfl, hrd, hfr, hu⟩
      have HQ3 := Lib.hid hrd
      have HU3 := Lib.hid (HU2.out.trans hu)
      clear hu hrd hfr HU2
      by_cases hE0 : E = 0
      · obtain ⟨m, rfl, hm8, hql, hK0, hok, hlm, hf120, hxl, hvf, hval, hq1, hq2, hK1⟩ := HEV.out (by trivial) hE0
        have hK2 : ¬ K < 1 := by omega
        have HG := Lib.hid (And.intro hlm (And.intro hxl hql))
        have HOKM := Lib.hid (And.intro hok (And.intro hvf hval))
        have HLQ := Lib.hid (And.intro hq1 (And.intro hq2 (And.intro hK0 hK1)))
        have HWH := Lib.hid (fun W => refWhole_q 0 W (by decide) (by decide))
        rw [hql]
        clear hlm hxl hok hvf hval hq1 hq2 hK0 hK1 hql HEV HE HVP2 i0
        subst hE0
        have HP3 := Lib.hid (CellF.new w3 A3 m c3 q.2)
        have HUP := Lib.hid (Up.alloc w3 (.cells #[.slice A3 m c3, .int .i64 q.2] 28))
        go_wp2_with fail
        refine Calls.mono (HWH.out _) ?_
        rintro e0 w4 ⟨v4, rfl, hv, hu⟩
        have HP4 := Lib.hid (HP3.out.up hu)
        have HU4 := Lib.hid (HU3.out.trans (HUP.out.trans hu))
        have HQ4 := Lib.hid (HQ3.out.up (HUP.out.trans hu))
        have HV4 := Lib.hid hv
        obtain ⟨s5, s6, b5, b6, A5, A6, n5, c5, n6, c6, rfl, -⟩ := hv
        obtain ⟨gp, hgp⟩ : ∃ gp, gp = w3.heap.size := ⟨_, rfl⟩
        rw [← hgp] at HP4 ⊢
        clear hu hgp HP3 HUP HU3 HQ3 hK2
        go_wp2_with fail
        have HS5 := Lib.hid (CellR.new w4 s5 b5 (.slice A5 n5 c5) s6 b6 (.slice A6 n6 c6))
        have HU5 := Lib.hid (Up.alloc w4 (.cells #[.int .i64 s5, .bool b5, .slice A5 n5 c5, .int .i64 s6, .bool b6, .slice A6 n6 c6] 50))
        have HV5 := Lib.hid (HV4.out.up HU5.out)
        obtain ⟨wB, hwB⟩ : ∃ wB, wB = w4.alloc (.cells #[.int .i64 s5, .bool b5, .slice A5 n5 c5, .int .i64 s6, .bool b6, .slice A6 n6 c6] 50) := ⟨_, rfl⟩
        obtain ⟨gs, hgs⟩ : ∃ gs, gs = w4.heap.size := ⟨_, rfl⟩
        rw [← hwB] at HS5 HU5 HV5 ⊢
        rw [← hgs] at HS5 ⊢
        have HGS := Lib.hid (show w4.heap.size ≤ gs by omega)
        have HM8 := Lib.hid (And.intro hm8 hf120)
        have HVQ := Lib.hid (fun f (h : f ∈ fs) => show f.1.length = m ∧ f.1.all limI = true ∧ limI f.2 = true from by
          have h9 := validFs_mem HOKM.out.2.1 f h
          have h8 := validF_len h9
          simp only [validF, Bool.and_eq_true, decide_eq_true_eq] at h9
          exact ⟨by simp [rowF] at h8; omega, h9.2, h9.1.2⟩)
        have HOX : Hid (okAll xs = true) := Lib.hid (HVP3.out (by trivial))
        have HQS := Lib.hid (linS_QB xs fs ms HG.out.1 (fun f h => valQ_QB (by rw [(HVQ.out f h).1]; exact HG.out.2.1.symm) (by rw [(HVQ.out f h).1]; omega) (HVQ.out f h).2.1 (HVQ.out f h).2.2 HOX.out) HOKM.out.1)
        have HST : Hid (RQ wB (.agg #[.int .i64 s5, .bool b5, .slice A5 n5 c5, .int .i64 s6, .bool b6, .slice A6 n6 c6]) (linS xs (fs.take 0) (ms.take 0))) := Lib.hid (by
          have h9 := HV5.out
          rw [show (((0 : Int) : Int) : Rat) = linS xs (fs.take 0) (ms.take 0) from rfl] at h9
          exact h9)
        clear hwB hgs hm8 hf120 HV4 HV5 HWH
        go_loopw [53] (fun i wr => ∃ a : Nat, a ≤ fs.length ∧ i = .int .i64 a ∧ ∃ (s : Int) (b : Bool) (A : Option Addr) (n c : Nat) (s2 : Int) (b2 : Bool) (A2 : Option Addr) (n2 c2 : Nat), Hid (CellR wr gs s b (.slice A n c) s2 b2 (.slice A2 n2 c2)) ∧ Hid (RQ wr (.agg #[.int .i64 s, .bool b, .slice A n c, .int .i64 s2, .bool b2, .slice A2 n2 c2]) (linS xs (fs.take a) (ms.take a))) ∧ Hid (Up w4 wr)) (fun i _ => fs.length - (intOf i).toNat)
        case atStart => exact ⟨0, by omega, rfl, s5, b5, A5, n5, c5, s6, b6, A6, n6, c6, HS5, HST, HU5⟩
        case round =>
          obtain ⟨a, ha, rfl, s7, b7, A7, n7, c7, s8, b8, A8, n8, c8, HS, HQ, HU⟩ := hrel
          by_cases hal : a < fs.length
          · have ham : a < ms.length := by have := HG.out.1; omega
            obtain ⟨bf, off, Bf, cf, rfl, hbb, e0, e1, h3, h4, h5⟩ := (HRD.out.1.up (HU4.out.trans HU.out)).f hal
            obtain ⟨bm, off2, rfl, hbm, d0, d1⟩ := (HRD.out.2.1.up (HU4.out.trans HU.out)).at_ ham
            have hvf := HVQ.out fs[a] (List.getElem_mem hal)
            have hom := okAll_get HOKM.out.1 ham
            have hm9 := HM8.out.1
            have hvf1 := hvf.1
            have HNEXT : Hid (linS xs (fs.take (a + 1)) (ms.take (a + 1)) = linS xs (fs.take a) (ms.take a) + ratOf ms[a].1 ms[a].2 * valQ fs[a] xs) := Lib.hid (linS_next xs fs ms a hal ham)
            have HQA := Lib.hid (HQS.out a (by omega))
            have hb1 : ∀ y, limI y = true → -2305843009213693952 < y ∧ y < 2305843009213693952 := fun y h => by
              simp only [limI, decide_eq_true_eq] at h
              omega
            have HTM := Lib.hid (fun W => refTo_q ms[a].1 ms[a].2 W hom)
            have HTF := Lib.hid (fun W (hu : Up wr W) => refRowTo_any Bf cf fs[a].1 fs[a].2 W (by omega) (h5.up hu) (fun y hy => hb1 y ((List.all_eq_true.1 hvf.2.1) y hy)) (by have := hb1 _ hvf.2.2; omega))
            have HRT := Lib.hid (fun W (hu : Up wr W) => refRats_any C e xs W (by have := HG.out.2.1; omega) (HRD.out.2.2.up ((HU4.out.trans HU.out).trans hu)) HOX.out)
            have HEVL := Lib.hid (fun W0 W1 W v A1 c1 (hu : Up W1 W) (hrow : RowQ W0 W1 v fs[a].1 fs[a].2) (hq : RdE eltQ W A1 (ratsOf xs)) => (show Calls Tryz.prog 28 #[v, .slice A1 (ratsOf xs).length c1] W fun e w' => ∃ v, e = .returned v ∧ RQ w' v (valQ fs[a] xs) ∧ Up W w' from
              refEval_row fs[a] xs m (by omega) hvf.1 HG.out.2.1 hvf.2.1 hvf.2.2 HOX.out W0 W1 W v A1 c1 hu hrow hq))
            have hqv := valQ_QB (f := fs[a]) (xs := xs) (by rw [hvf.1]; exact HG.out.2.1.symm) (by rw [hvf.1]; omega) hvf.2.1 hvf.2.2 HOX.out
            have HTI := Lib.hid (fun W u v (h1 : RQ W u (ratOf ms[a].1 ms[a].2)) (h2 : RQ W v (valQ fs[a] xs)) => refRatTimes_q u v _ _ 3 80 W h1 h2 (ok_QB hom) hqv (by omega))
            have hqt := (ok_QB hom).mul hqv (Nat.le_refl _)
            have HPL := Lib.hid (fun W u v (h1 : RQ W u (linS xs (fs.take a) (ms.take a))) (h2 : RQ W v (ratOf ms[a].1 ms[a].2 * valQ fs[a] xs)) => refRatPlus_q u v _ _ _ _ W h1 h2 HQA.out hqt (by have := HM8.out.2; omega))
            rw [← HNEXT.out] at HPL
            generalize valQ fs[a] xs = vq at *
            generalize ratOf ms[a].1 ms[a].2 = mq at *
            generalize hmx : ms[a].1 = mx at *
            generalize hmy : ms[a].2 = my at *
            generalize hfa : fs[a] = f at *
            obtain ⟨zs, z⟩ := f
            simp only at e0 e1 hvf h5 HTF HEVL
            clear hmx hmy hfa hqt hqv hom hb1 h3 h4
            have hvz := hvf.1
            have hm10 := hm9
            have HDM0 := Lib.hid (And.intro d0 d1)
            clear hvf hm9 hvf1 h5
            generalize zs.length = zl at *
            clear hvz hm10
            have i0 : (0 : Int) ≤ (a : Int) := by omega
            have i1 : (a : Int) < (ms.length : Int) := by omega
            go_upto_region 12 with fail
            have HUY := Lib.hid (Up.alloc wr (.cells #[.slice Bf zl cf, .int .i64 z] 28))
            have HCF := Lib.hid (CellF.new wr Bf zl cf z)
            obtain ⟨wY, hwY⟩ : ∃ wY, wY = wr.alloc (.cells #[.slice Bf zl cf, .int .i64 z] 28) := ⟨_, rfl⟩
            obtain ⟨gf, hgf⟩ : ∃ gf, gf = wr.heap.size := ⟨_, rfl⟩
            rw [← hwY] at HUY HCF ⊢
            rw [← hgf] at HCF ⊢
            have HSY := Lib.hid (HS.out.up HUY.out)
            have HQY := Lib.hid (HQ.out.up HUY.out)
            have HDM := Lib.hid (fun W (hu : Up wY W) => And.intro (((HUY.out.trans hu).cells.1 _ _ hbm).trans HDM0.out.1) (((HUY.out.trans hu).cells.1 _ _ hbm).trans HDM0.out.2))
            clear hwY hgf e0 e1 d0 d1 hbb
            obtain ⟨k0, k1, k2, k3, k4, k5, lk⟩ := HSY.out.facts
            obtain ⟨y0, y1, y2, y3, y4, y5⟩ := HSY.out.frozen6
            obtain ⟨p0, p1, -, -, lp⟩ := HCF.out.facts
            obtain ⟨d0, d1⟩ := HDM.out wY (Up.refl _)
            go_region_law
              ((first
          | (go_simp
             go_at_call 26
             refine Calls.mono (HTM.out _) ?_
             rintro e0 w5 ⟨v5, rfl, hv, hu⟩
             have HU5 := Lib.hid hu
             have HV5 := Lib.hid hv
             obtain ⟨s15, s25, b15, b25, A15, A25, n15, c15, n25, c25, rfl, -⟩ := hv
             obtain ⟨k0, k1, k2, k3, k4, k5, lk⟩ := (HSY.out.up (w' := w5) (by (repeat (first | exact Below.refl _ _ | exact Hid.out (by assumption) | refine Up.trans ?_ (Up.drew _) | refine Up.trans ?_ (Up.drewN _ _) | refine Up.trans ?_ (Up.alloc _ _) | refine Up.trans ?_ (Hid.out (by assumption)))))).facts
             obtain ⟨y0, y1, y2, y3, y4, y5⟩ := (HSY.out.up (w' := w5) (by (repeat (first | exact Below.refl _ _ | exact Hid.out (by assumption) | refine Up.trans ?_ (Up.drew _) | refine Up.trans ?_ (Up.drewN _ _) | refine Up.trans ?_ (Up.alloc _ _) | refine Up.trans ?_ (Hid.out (by assumption)))))).frozen6
             obtain ⟨p0, p1, -, -, lp⟩ := (HCF.out.up (w' := w5) (by (repeat (first | exact Below.refl _ _ | exact Hid.out (by assumption) | refine Up.trans ?_ (Up.drew _) | refine Up.trans ?_ (Up.drewN _ _) | refine Up.trans ?_ (Up.alloc _ _) | refine Up.trans ?_ (Hid.out (by assumption)))))).facts
             obtain ⟨d0, d1⟩ := HDM.out w5 (by (repeat (first | exact Below.refl _ _ | exact Hid.out (by assumption) | refine Up.trans ?_ (Up.drew _) | refine Up.trans ?_ (Up.drewN _ _) | refine Up.trans ?_ (Up.alloc _ _) | refine Up.trans ?_ (Hid.out (by assumption)))))
             clear hu)
          | (go_simp
             go_at_call 29
             refine Calls.mono (HTF.out _ (HUY.out.trans (by (repeat (first | exact Below.refl _ _ | exact Hid.out (by assumption) | refine Up.trans ?_ (Up.drew _) | refine Up.trans ?_ (Up.drewN _ _) | refine Up.trans ?_ (Up.alloc _ _) | refine Up.trans ?_ (Hid.out (by assumption))))))) ?_
             rintro e0 w6 ⟨v6, rfl, hv, hu⟩
             have HU6 := Lib.hid hu
             have HV6 := Lib.hid hv
             obtain ⟨A16, c16, s16, b16, A26, n26, c26, rfl, -⟩ := hv
             obtain ⟨k0, k1, k2, k3, k4, k5, lk⟩ := (HSY.out.up (w' := w6) (by (repeat (first | exact Below.refl _ _ | exact Hid.out (by assumption) | refine Up.trans ?_ (Up.drew _) | refine Up.trans ?_ (Up.drewN _ _) | refine Up.trans ?_ (Up.alloc _ _) | refine Up.trans ?_ (Hid.out (by assumption)))))).facts
             obtain ⟨y0, y1, y2, y3, y4, y5⟩ := (HSY.out.up (w' := w6) (by (repeat (first | exact Below.refl _ _ | exact Hid.out (by assumption) | refine Up.trans ?_ (Up.drew _) | refine Up.trans ?_ (Up.drewN _ _) | refine Up.trans ?_ (Up.alloc _ _) | refine Up.trans ?_ (Hid.out (by assumption)))))).frozen6
             obtain ⟨p0, p1, -, -, lp⟩ := (HCF.out.up (w' := w6) (by (repeat (first | exact Below.refl _ _ | exact Hid.out (by assumption) | refine Up.trans ?_ (Up.drew _) | refine Up.trans ?_ (Up.drewN _ _) | refine Up.trans ?_ (Up.alloc _ _) | refine Up.trans ?_ (Hid.out (by assumption)))))).facts
             obtain ⟨d0, d1⟩ := HDM.out w6 (by (repeat (first | exact Below.refl _ _ | exact Hid.out (by assumption) | refine Up.trans ?_ (Up.drew _) | refine Up.trans ?_ (Up.drewN _ _) | refine Up.trans ?_ (Up.alloc _ _) | refine Up.trans ?_ (Hid.out (by assumption)))))
             clear hu)
          | (go_simp
             go_at_call 30
             refine Calls.mono (HRT.out _ (HUY.out.trans (by (repeat (first | exact Below.refl _ _ | exact Hid.out (by assumption) | refine Up.trans ?_ (Up.drew _) | refine Up.trans ?_ (Up.drewN _ _) | refine Up.trans ?_ (Up.alloc _ _) | refine Up.trans ?_ (Hid.out (by assumption))))))) ?_
             rintro e0 w7 ⟨A17, c17, rfl, hv, hu⟩
             have HU7 := Lib.hid hu
             have HV7 := Lib.hid hv
             obtain ⟨k0, k1, k2, k3, k4, k5, lk⟩ := (HSY.out.up (w' := w7) (by (repeat (first | exact Below.refl _ _ | exact Hid.out (by assumption) | refine Up.trans ?_ (Up.drew _) | refine Up.trans ?_ (Up.drewN _ _) | refine Up.trans ?_ (Up.alloc _ _) | refine Up.trans ?_ (Hid.out (by assumption)))))).facts
             obtain ⟨y0, y1, y2, y3, y4, y5⟩ := (HSY.out.up (w' := w7) (by (repeat (first | exact Below.refl _ _ | exact Hid.out (by assumption) | refine Up.trans ?_ (Up.drew _) | refine Up.trans ?_ (Up.drewN _ _) | refine Up.trans ?_ (Up.alloc _ _) | refine Up.trans ?_ (Hid.out (by assumption)))))).frozen6
             obtain ⟨p0, p1, -, -, lp⟩ := (HCF.out.up (w' := w7) (by (repeat (first | exact Below.refl _ _ | exact Hid.out (by assumption) | refine Up.trans ?_ (Up.drew _) | refine Up.trans ?_ (Up.drewN _ _) | refine Up.trans ?_ (Up.alloc _ _) | refine Up.trans ?_ (Hid.out (by assumption)))))).facts
             obtain ⟨d0, d1⟩ := HDM.out w7 (by (repeat (first | exact Below.refl _ _ | exact Hid.out (by assumption) | refine Up.trans ?_ (Up.drew _) | refine Up.trans ?_ (Up.drewN _ _) | refine Up.trans ?_ (Up.alloc _ _) | refine Up.trans ?_ (Hid.out (by assumption)))))
             clear hu hv)
          | (go_simp
             go_at_call 28
             refine Calls.mono (HEVL.out _ _ _ _ _ _ (by (repeat (first | exact Below.refl _ _ | exact Hid.out (by assumption) | refine Up.trans ?_ (Up.drew _) | refine Up.trans ?_ (Up.drewN _ _) | refine Up.trans ?_ (Up.alloc _ _) | refine Up.trans ?_ (Hid.out (by assumption))))) HV6.out (HV7.out.up (by (repeat (first | exact Below.refl _ _ | exact Hid.out (by assumption) | refine Up.trans ?_ (Up.drew _) | refine Up.trans ?_ (Up.drewN _ _) | refine Up.trans ?_ (Up.alloc _ _) | refine Up.trans ?_ (Hid.out (by assumption))))))) ?_
             rintro e0 w8 ⟨v8, rfl, hv, hu⟩
             have HU8 := Lib.hid hu
             have HV8 := Lib.hid hv
             obtain ⟨s18, s28, b18, b28, A18, A28, n18, c18, n28, c28, rfl, -⟩ := hv
             obtain ⟨k0, k1, k2, k3, k4, k5, lk⟩ := (HSY.out.up (w' := w8) (by (repeat (first | exact Below.refl _ _ | exact Hid.out (by assumption) | refine Up.trans ?_ (Up.drew _) | refine Up.trans ?_ (Up.drewN _ _) | refine Up.trans ?_ (Up.alloc _ _) | refine Up.trans ?_ (Hid.out (by assumption)))))).facts
             obtain ⟨y0, y1, y2, y3, y4, y5⟩ := (HSY.out.up (w' := w8) (by (repeat (first | exact Below.refl _ _ | exact Hid.out (by assumption) | refine Up.trans ?_ (Up.drew _) | refine Up.trans ?_ (Up.drewN _ _) | refine Up.trans ?_ (Up.alloc _ _) | refine Up.trans ?_ (Hid.out (by assumption)))))).frozen6
             obtain ⟨p0, p1, -, -, lp⟩ := (HCF.out.up (w' := w8) (by (repeat (first | exact Below.refl _ _ | exact Hid.out (by assumption) | refine Up.trans ?_ (Up.drew _) | refine Up.trans ?_ (Up.drewN _ _) | refine Up.trans ?_ (Up.alloc _ _) | refine Up.trans ?_ (Hid.out (by assumption)))))).facts
             obtain ⟨d0, d1⟩ := HDM.out w8 (by (repeat (first | exact Below.refl _ _ | exact Hid.out (by assumption) | refine Up.trans ?_ (Up.drew _) | refine Up.trans ?_ (Up.drewN _ _) | refine Up.trans ?_ (Up.alloc _ _) | refine Up.trans ?_ (Hid.out (by assumption)))))
             clear hu)
          | (go_simp
             go_at_call 27
             refine Calls.mono (HTI.out _ _ _ (HV5.out.up (by (repeat (first | exact Below.refl _ _ | exact Hid.out (by assumption) | refine Up.trans ?_ (Up.drew _) | refine Up.trans ?_ (Up.drewN _ _) | refine Up.trans ?_ (Up.alloc _ _) | refine Up.trans ?_ (Hid.out (by assumption)))))) (HV8.out.up (by (repeat (first | exact Below.refl _ _ | exact Hid.out (by assumption) | refine Up.trans ?_ (Up.drew _) | refine Up.trans ?_ (Up.drewN _ _) | refine Up.trans ?_ (Up.alloc _ _) | refine Up.trans ?_ (Hid.out (by assumption))))))) ?_
             rintro e0 w9 ⟨v9, rfl, hv, hu⟩
             have HU9 := Lib.hid hu
             have HV9 := Lib.hid hv
             obtain ⟨s19, s29, b19, b29, A19, A29, n19, c19, n29, c29, rfl, -⟩ := hv
             obtain ⟨k0, k1, k2, k3, k4, k5, lk⟩ := (HSY.out.up (w' := w9) (by (repeat (first | exact Below.refl _ _ | exact Hid.out (by assumption) | refine Up.trans ?_ (Up.drew _) | refine Up.trans ?_ (Up.drewN _ _) | refine Up.trans ?_ (Up.alloc _ _) | refine Up.trans ?_ (Hid.out (by assumption)))))).facts
             obtain ⟨y0, y1, y2, y3, y4, y5⟩ := (HSY.out.up (w' := w9) (by (repeat (first | exact Below.refl _ _ | exact Hid.out (by assumption) | refine Up.trans ?_ (Up.drew _) | refine Up.trans ?_ (Up.drewN _ _) | refine Up.trans ?_ (Up.alloc _ _) | refine Up.trans ?_ (Hid.out (by assumption)))))).frozen6
             obtain ⟨p0, p1, -, -, lp⟩ := (HCF.out.up (w' := w9) (by (repeat (first | exact Below.refl _ _ | exact Hid.out (by assumption) | refine Up.trans ?_ (Up.drew _) | refine Up.trans ?_ (Up.drewN _ _) | refine Up.trans ?_ (Up.alloc _ _) | refine Up.trans ?_ (Hid.out (by assumption)))))).facts
             obtain ⟨d0, d1⟩ := HDM.out w9 (by (repeat (first | exact Below.refl _ _ | exact Hid.out (by assumption) | refine Up.trans ?_ (Up.drew _) | refine Up.trans ?_ (Up.drewN _ _) | refine Up.trans ?_ (Up.alloc _ _) | refine Up.trans ?_ (Hid.out (by assumption)))))
             clear hu)
          | (go_simp
             go_at_call 25
             refine Calls.mono (HPL.out _ _ _ (HQY.out.up (by (repeat (first | exact Below.refl _ _ | exact Hid.out (by assumption) | refine Up.trans ?_ (Up.drew _) | refine Up.trans ?_ (Up.drewN _ _) | refine Up.trans ?_ (Up.alloc _ _) | refine Up.trans ?_ (Hid.out (by assumption)))))) (HV9.out.up (by (repeat (first | exact Below.refl _ _ | exact Hid.out (by assumption) | refine Up.trans ?_ (Up.drew _) | refine Up.trans ?_ (Up.drewN _ _) | refine Up.trans ?_ (Up.alloc _ _) | refine Up.trans ?_ (Hid.out (by assumption))))))) ?_
             rintro e0 w10 ⟨v10, rfl, hv, hu⟩
             have HU10 := Lib.hid hu
             have HV10 := Lib.hid hv
             obtain ⟨s20, s30, b20, b30, A20, A30, n20, c20, n30, c30, rfl, -⟩ := hv
             obtain ⟨k0, k1, k2, k3, k4, k5, lk⟩ := (HSY.out.up (w' := w10) (by (repeat (first | exact Below.refl _ _ | exact Hid.out (by assumption) | refine Up.trans ?_ (Up.drew _) | refine Up.trans ?_ (Up.drewN _ _) | refine Up.trans ?_ (Up.alloc _ _) | refine Up.trans ?_ (Hid.out (by assumption)))))).facts
             obtain ⟨y0, y1, y2, y3, y4, y5⟩ := (HSY.out.up (w' := w10) (by (repeat (first | exact Below.refl _ _ | exact Hid.out (by assumption) | refine Up.trans ?_ (Up.drew _) | refine Up.trans ?_ (Up.drewN _ _) | refine Up.trans ?_ (Up.alloc _ _) | refine Up.trans ?_ (Hid.out (by assumption)))))).frozen6
             obtain ⟨p0, p1, -, -, lp⟩ := (HCF.out.up (w' := w10) (by (repeat (first | exact Below.refl _ _ | exact Hid.out (by assumption) | refine Up.trans ?_ (Up.drew _) | refine Up.trans ?_ (Up.drewN _ _) | refine Up.trans ?_ (Up.alloc _ _) | refine Up.trans ?_ (Hid.out (by assumption)))))).facts
             obtain ⟨d0, d1⟩ := HDM.out w10 (by (repeat (first | exact Below.refl _ _ | exact Hid.out (by assumption) | refine Up.trans ?_ (Up.drew _) | refine Up.trans ?_ (Up.drewN _ _) | refine Up.trans ?_ (Up.alloc _ _) | refine Up.trans ?_ (Hid.out (by assumption)))))
             clear hu)))
            all_goals
              have HSZ := Lib.hid ((HSY.out.up (w' := w10) (by (repeat (first | exact Below.refl _ _ | exact Hid.out (by assumption) | refine Up.trans ?_ (Up.drew _) | refine Up.trans ?_ (Up.drewN _ _) | refine Up.trans ?_ (Up.alloc _ _) | refine Up.trans ?_ (Hid.out (by assumption)))))).set s20 b20 (.slice A20 n20 c20) s30 b30 (.slice A30 n30 c30))
              have HVZ := Lib.hid (HV10.out.put6 (HSY.out.up (w' := w10) (by (repeat (first | exact Below.refl _ _ | exact Hid.out (by assumption) | refine Up.trans ?_ (Up.drew _) | refine Up.trans ?_ (Up.drewN _ _) | refine Up.trans ?_ (Up.alloc _ _) | refine Up.trans ?_ (Hid.out (by assumption)))))) (.int .i64 s20) (.bool b20) (.slice A20 n20 c20) (.int .i64 s30) (.bool b30) (.slice A30 n30 c30))
              have HUZ := Lib.hid (Up.put6 ((HU.out.trans HUY.out).trans (show Up wY w10 by (repeat (first | exact Below.refl _ _ | exact Hid.out (by assumption) | refine Up.trans ?_ (Up.drew _) | refine Up.trans ?_ (Up.drewN _ _) | refine Up.trans ?_ (Up.alloc _ _) | refine Up.trans ?_ (Hid.out (by assumption)))))) HGS.out (.int .i64 s20) (.bool b20) (.slice A20 n20 c20) (.int .i64 s30) (.bool b30) (.slice A30 n30 c30))
              clear k0 k1 k2 k3 k4 k5 lk y0 y1 y2 y3 y4 y5 p0 p1 lp d0 d1
              go_wp2
              exact ⟨⟨a + 1, by omega, by simp, s20, b20, A20, n20, c20, s30, b30, A30, n30, c30, HSZ, HVZ, HUZ⟩, by simp [intOf]; omega⟩
          · have hae : a = fs.length := by omega
            subst hae
            rw [List.take_length, List.take_of_length_le (by have := HG.out.1; omega)] at HQ
            have hb1 : ∀ y, limI y = true → -2305843009213693952 < y ∧ y < 2305843009213693952 := fun y h => by
              simp only [limI, decide_eq_true_eq] at h
              omega
            have hm9 := HM8.out.1
            have HTF := Lib.hid (fun W (hu : Up wr W) => (show Calls Tryz.prog 29 #[.agg #[.slice A3 m c3, .int .i64 q.2]] W fun e w' => ∃ v, e = .returned v ∧ RowQ W w' v q.1 q.2 ∧ Up W w' from by
              have h9 := refRowTo_any A3 c3 q.1 q.2 W (by rw [HG.out.2.2]; omega) (HQ4.out.up (HU.out.trans hu)) (fun y hy => hb1 y ((List.all_eq_true.1 HLQ.out.1) y hy)) (by have := hb1 _ HLQ.out.2.1; omega)
              rw [HG.out.2.2] at h9
              exact h9))
            have HRT := Lib.hid (fun W (hu : Up wr W) => refRats_any C e xs W (by have := HG.out.2.1; omega) (HRD.out.2.2.up ((HU4.out.trans HU.out).trans hu)) HOX.out)
            have HEVL := Lib.hid (fun W0 W1 W v A1 c1 (hu : Up W1 W) (hrow : RowQ W0 W1 v q.1 q.2) (hq : RdE eltQ W A1 (ratsOf xs)) => refEval_row q xs m (by omega) HG.out.2.2 HG.out.2.1 HLQ.out.1 HLQ.out.2.1 HOX.out W0 W1 W v A1 c1 hu hrow hq)
            have hK9 : -9223372036854775808 ≤ K ∧ K ≤ 9223372036854775807 := by have := hb1 K HLQ.out.2.2.2; omega
            have HWK := Lib.hid (fun W => refWhole_q K W hK9.1 hK9.2)
            have hk0 : (K : Rat) ≠ 0 := by
              intro h
              have h8 := Rat.intCast_inj.1 (show ((K : Int) : Rat) = ((0 : Int) : Rat) from h)
              have h7 := HLQ.out.2.2.1
              omega
            have hqv := valQ_QB (f := q) (xs := xs) (by rw [HG.out.2.2]; exact HG.out.2.1.symm) (by rw [HG.out.2.2]; omega) HLQ.out.1 HLQ.out.2.1 HOX.out
            have HOV := Lib.hid (fun W u v (h1 : RQ W u (valQ q xs)) (h2 : RQ W v (K : Rat)) => (show Calls Tryz.prog 31 #[u, v] W fun e w' => ∃ v', e = .returned v' ∧ RQ w' v' (linS xs fs ms) ∧ Up W w' from by
              have h9 := refRatOver_q u v _ _ 80 3 W h1 h2 hqv (int_QB hK9.1 hK9.2) (by omega) hk0
              rw [HOKM.out.2.2, rat_cancel HLQ.out.2.2.1] at h9
              exact h9))
            have hsq := HQS.out fs.length (Nat.le_refl _)
            rw [List.take_length, List.take_of_length_le (by have := HG.out.1; omega)] at hsq
            have HCM := Lib.hid (fun W u v (h1 : RQ W u (linS xs fs ms)) (h2 : RQ W v (linS xs fs ms)) => (show Calls Tryz.prog 32 #[u, v] W fun e w' => e = .returned (.int .i64 0) ∧ Up W w' from by
              have h9 := refRatCompare_q u v _ _ _ _ W h1 h2 hsq hsq (by have := HM8.out.2; omega)
              rw [Rat.sub_self] at h9
              exact h9))
            generalize linS xs fs ms = S at *
            have HPW := Lib.hid (HP4.out.up HU.out)
            have HUR := Lib.hid (HU4.out.trans HU.out)
            clear hsq hk0 hqv hK9 hb1 hm9 HQS HST HS5 HU5 HP4 HU
            obtain ⟨k0, k1, k2, k3, k4, k5, lk⟩ := HS.out.facts
            obtain ⟨p0, p1, -, -, lp⟩ := HPW.out.facts
            go_upto_region 14 with fail
            go_region_held3 (fun w' => w'.cell? ⟨gp, 0, none⟩ = some (.slice A3 m c3) ∧ w'.cell? ⟨gp, 1, none⟩ = some (.int .i64 q.2) ∧ w'.cell? ⟨gs, 0, none⟩ = some (.int .i64 s7) ∧ w'.cell? ⟨gs, 1, none⟩ = some (.bool b7) ∧ w'.cell? ⟨gs, 2, none⟩ = some (.slice A7 n7 c7) ∧ w'.cell? ⟨gs, 3, none⟩ = some (.int .i64 s8) ∧ w'.cell? ⟨gs, 4, none⟩ = some (.bool b8) ∧ w'.cell? ⟨gs, 5, none⟩ = some (.slice A8 n8 c8)) (go_keep)
              ((first
            | (go_at_call 29
               refine Calls.mono (HTF.out _ (by (repeat (first | exact Below.refl _ _ | exact Hid.out (by assumption) | refine Up.trans ?_ (Up.drew _) | refine Up.trans ?_ (Up.drewN _ _) | refine Up.trans ?_ (Up.alloc _ _) | refine Up.trans ?_ (Hid.out (by assumption)))))) ?_
               rintro e0 w6 ⟨v6, rfl, hv, hu⟩
               have HU6 := Lib.hid hu
               have HV6 := Lib.hid hv
               obtain ⟨A16, c16, s16, b16, A26, n26, c26, rfl, -⟩ := hv
               obtain ⟨k0, k1, k2, k3, k4, k5, lk⟩ := (HS.out.up (w' := w6) (by (repeat (first | exact Below.refl _ _ | exact Hid.out (by assumption) | refine Up.trans ?_ (Up.drew _) | refine Up.trans ?_ (Up.drewN _ _) | refine Up.trans ?_ (Up.alloc _ _) | refine Up.trans ?_ (Hid.out (by assumption)))))).facts
               obtain ⟨p0, p1, -, -, lp⟩ := (HPW.out.up (w' := w6) (by (repeat (first | exact Below.refl _ _ | exact Hid.out (by assumption) | refine Up.trans ?_ (Up.drew _) | refine Up.trans ?_ (Up.drewN _ _) | refine Up.trans ?_ (Up.alloc _ _) | refine Up.trans ?_ (Hid.out (by assumption)))))).facts
               clear hu)
            | (go_at_call 30
               refine Calls.mono (HRT.out _ (by (repeat (first | exact Below.refl _ _ | exact Hid.out (by assumption) | refine Up.trans ?_ (Up.drew _) | refine Up.trans ?_ (Up.drewN _ _) | refine Up.trans ?_ (Up.alloc _ _) | refine Up.trans ?_ (Hid.out (by assumption)))))) ?_
               rintro e0 w7 ⟨A17, c17, rfl, hv, hu⟩
               have HU7 := Lib.hid hu
               have HV7 := Lib.hid hv
               obtain ⟨k0, k1, k2, k3, k4, k5, lk⟩ := (HS.out.up (w' := w7) (by (repeat (first | exact Below.refl _ _ | exact Hid.out (by assumption) | refine Up.trans ?_ (Up.drew _) | refine Up.trans ?_ (Up.drewN _ _) | refine Up.trans ?_ (Up.alloc _ _) | refine Up.trans ?_ (Hid.out (by assumption)))))).facts
               obtain ⟨p0, p1, -, -, lp⟩ := (HPW.out.up (w' := w7) (by (repeat (first | exact Below.refl _ _ | exact Hid.out (by assumption) | refine Up.trans ?_ (Up.drew _) | refine Up.trans ?_ (Up.drewN _ _) | refine Up.trans ?_ (Up.alloc _ _) | refine Up.trans ?_ (Hid.out (by assumption)))))).facts
               clear hu hv)
            | (go_at_call 28
               refine Calls.mono (HEVL.out _ _ _ _ _ _ (by (repeat (first | exact Below.refl _ _ | exact Hid.out (by assumption) | refine Up.trans ?_ (Up.drew _) | refine Up.trans ?_ (Up.drewN _ _) | refine Up.trans ?_ (Up.alloc _ _) | refine Up.trans ?_ (Hid.out (by assumption))))) HV6.out (HV7.out.up (by (repeat (first | exact Below.refl _ _ | exact Hid.out (by assumption) | refine Up.trans ?_ (Up.drew _) | refine Up.trans ?_ (Up.drewN _ _) | refine Up.trans ?_ (Up.alloc _ _) | refine Up.trans ?_ (Hid.out (by assumption))))))) ?_
               rintro e0 w8 ⟨v8, rfl, hv, hu⟩
               have HU8 := Lib.hid hu
               have HV8 := Lib.hid hv
               obtain ⟨s18, s28, b18, b28, A18, A28, n18, c18, n28, c28, rfl, -⟩ := hv
               obtain ⟨k0, k1, k2, k3, k4, k5, lk⟩ := (HS.out.up (w' := w8) (by (repeat (first | exact Below.refl _ _ | exact Hid.out (by assumption) | refine Up.trans ?_ (Up.drew _) | refine Up.trans ?_ (Up.drewN _ _) | refine Up.trans ?_ (Up.alloc _ _) | refine Up.trans ?_ (Hid.out (by assumption)))))).facts
               obtain ⟨p0, p1, -, -, lp⟩ := (HPW.out.up (w' := w8) (by (repeat (first | exact Below.refl _ _ | exact Hid.out (by assumption) | refine Up.trans ?_ (Up.drew _) | refine Up.trans ?_ (Up.drewN _ _) | refine Up.trans ?_ (Up.alloc _ _) | refine Up.trans ?_ (Hid.out (by assumption)))))).facts
               clear hu)
            | (go_at_call 24
               refine Calls.mono (HWK.out _) ?_
               rintro e0 w9 ⟨v9, rfl, hv, hu⟩
               have HU9 := Lib.hid hu
               have HV9 := Lib.hid hv
               obtain ⟨s19, s29, b19, b29, A19, A29, n19, c19, n29, c29, rfl, -⟩ := hv
               obtain ⟨k0, k1, k2, k3, k4, k5, lk⟩ := (HS.out.up (w' := w9) (by (repeat (first | exact Below.refl _ _ | exact Hid.out (by assumption) | refine Up.trans ?_ (Up.drew _) | refine Up.trans ?_ (Up.drewN _ _) | refine Up.trans ?_ (Up.alloc _ _) | refine Up.trans ?_ (Hid.out (by assumption)))))).facts
               obtain ⟨p0, p1, -, -, lp⟩ := (HPW.out.up (w' := w9) (by (repeat (first | exact Below.refl _ _ | exact Hid.out (by assumption) | refine Up.trans ?_ (Up.drew _) | refine Up.trans ?_ (Up.drewN _ _) | refine Up.trans ?_ (Up.alloc _ _) | refine Up.trans ?_ (Hid.out (by assumption)))))).facts
               clear hu)
            | (go_at_call 31
               refine Calls.mono (HOV.out _ _ _ (HV8.out.up (by (repeat (first | exact Below.refl _ _ | exact Hid.out (by assumption) | refine Up.trans ?_ (Up.drew _) | refine Up.trans ?_ (Up.drewN _ _) | refine Up.trans ?_ (Up.alloc _ _) | refine Up.trans ?_ (Hid.out (by assumption)))))) (HV9.out.up (by (repeat (first | exact Below.refl _ _ | exact Hid.out (by assumption) | refine Up.trans ?_ (Up.drew _) | refine Up.trans ?_ (Up.drewN _ _) | refine Up.trans ?_ (Up.alloc _ _) | refine Up.trans ?_ (Hid.out (by assumption))))))) ?_
               rintro e0 w10 ⟨v10, rfl, hv, hu⟩
               have HU10 := Lib.hid hu
               have HV10 := Lib.hid hv
               obtain ⟨s20, s30, b20, b30, A20, A30, n20, c20, n30, c30, rfl, -⟩ := hv
               obtain ⟨k0, k1, k2, k3, k4, k5, lk⟩ := (HS.out.up (w' := w10) (by (repeat (first | exact Below.refl _ _ | exact Hid.out (by assumption) | refine Up.trans ?_ (Up.drew _) | refine Up.trans ?_ (Up.drewN _ _) | refine Up.trans ?_ (Up.alloc _ _) | refine Up.trans ?_ (Hid.out (by assumption)))))).facts
               obtain ⟨p0, p1, -, -, lp⟩ := (HPW.out.up (w' := w10) (by (repeat (first | exact Below.refl _ _ | exact Hid.out (by assumption) | refine Up.trans ?_ (Up.drew _) | refine Up.trans ?_ (Up.drewN _ _) | refine Up.trans ?_ (Up.alloc _ _) | refine Up.trans ?_ (Hid.out (by assumption)))))).facts
               clear hu)
            | (go_at_call 32
               refine Calls.mono (HCM.out _ _ _ (HV10.out.up (by (repeat (first | exact Below.refl _ _ | exact Hid.out (by assumption) | refine Up.trans ?_ (Up.drew _) | refine Up.trans ?_ (Up.drewN _ _) | refine Up.trans ?_ (Up.alloc _ _) | refine Up.trans ?_ (Hid.out (by assumption)))))) (HQ.out.up (by (repeat (first | exact Below.refl _ _ | exact Hid.out (by assumption) | refine Up.trans ?_ (Up.drew _) | refine Up.trans ?_ (Up.drewN _ _) | refine Up.trans ?_ (Up.alloc _ _) | refine Up.trans ?_ (Hid.out (by assumption))))))) ?_
               rintro e0 w11 ⟨rfl, hu⟩
               have HU11 := Lib.hid hu
               obtain ⟨k0, k1, k2, k3, k4, k5, lk⟩ := (HS.out.up (w' := w11) (by (repeat (first | exact Below.refl _ _ | exact Hid.out (by assumption) | refine Up.trans ?_ (Up.drew _) | refine Up.trans ?_ (Up.drewN _ _) | refine Up.trans ?_ (Up.alloc _ _) | refine Up.trans ?_ (Hid.out (by assumption)))))).facts
               obtain ⟨p0, p1, -, -, lp⟩ := (HPW.out.up (w' := w11) (by (repeat (first | exact Below.refl _ _ | exact Hid.out (by assumption) | refine Up.trans ?_ (Up.drew _) | refine Up.trans ?_ (Up.drewN _ _) | refine Up.trans ?_ (Up.alloc _ _) | refine Up.trans ?_ (Hid.out (by assumption)))))).facts
               clear hu)
            | (go_at_call 9
               refine Calls.mono (HAW.out _ (by (repeat (first | exact Below.refl _ _ | exact Hid.out (by assumption) | refine Up.trans ?_ (Up.drew _) | refine Up.trans ?_ (Up.drewN _ _) | refine Up.trans ?_ (Up.alloc _ _) | refine Up.trans ?_ (Hid.out (by assumption)))))) ?_
               rintro e0 w12 ⟨rfl, hu⟩
               have HU12 := Lib.hid hu
               obtain ⟨k0, k1, k2, k3, k4, k5, lk⟩ := (HS.out.up (w' := w12) (by (repeat (first | exact Below.refl _ _ | exact Hid.out (by assumption) | refine Up.trans ?_ (Up.drew _) | refine Up.trans ?_ (Up.drewN _ _) | refine Up.trans ?_ (Up.alloc _ _) | refine Up.trans ?_ (Hid.out (by assumption)))))).facts
               obtain ⟨p0, p1, -, -, lp⟩ := (HPW.out.up (w' := w12) (by (repeat (first | exact Below.refl _ _ | exact Hid.out (by assumption) | refine Up.trans ?_ (Up.drew _) | refine Up.trans ?_ (Up.drewN _ _) | refine Up.trans ?_ (Up.alloc _ _) | refine Up.trans ?_ (Hid.out (by assumption)))))).facts
               clear hu)))
            all_goals
              go_wp2
              go_ret
              exact ⟨rfl, by (repeat (first | exact Below.refl _ _ | exact Hid.out (by assumption) | refine Up.trans ?_ (Up.drew _) | refine Up.trans ?_ (Up.drewN _ _) | refine Up.trans ?_ (Up.alloc _ _) | refine Up.trans ?_ (Hid.out (by assumption))))⟩
      · clear HEV
        go_wp2_with fail
        refine Calls.mono (HAW.out _ (by (repeat (first | exact Below.refl _ _ | exact Hid.out (by assumption) | refine Up.trans ?_ (Up.drew _) | refine Up.trans ?_ (Up.drewN _ _) | refine Up.trans ?_ (Up.alloc _ _) | refine Up.trans ?_ (Hid.out (by assumption)))))) ?_
        rintro e0 w4 ⟨rfl, hu⟩
        go_wp2
        go_ret
        exact ⟨rfl, (HU3.out.trans (Up.alloc _ _)).trans hu⟩
  · have i0 : (140 : Int) < (ms.length : Int) := by omega
    clear h140
    go_wp2_with fail
    refine Calls.mono (HAW.out _ (by (repeat (first | exact Below.refl _ _ | exact Hid.out (by assumption) | refine Up.trans ?_ (Up.drew _) | refine Up.trans ?_ (Up.drewN _ _) | refine Up.trans ?_ (Up.alloc _ _) | refine Up.trans ?_ (Hid.out (by assumption)))))) ?_
    rintro e0 w2 ⟨rfl, hu⟩
    go_wp2
    go_ret
    exact ⟨rfl, HU1.out.trans hu⟩
end Go.Proofs.YtacbjbnocepnaaaGreatDoor

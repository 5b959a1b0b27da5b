/- Contracts of the reference implementation: sums and products. -/
import Derived.Test.YtacbjbnocepnaaaGreatDoorQGJ
namespace Go.Proofs.YtacbjbnocepnaaaGreatDoor
open Go.RowKit Fm
set_option maxHeartbeats 1000000 in
set_option maxRecDepth 10000 in
theorem refPlus_small (v1 v2 : Value) (a b : Int) (w : World) (h1 : RI w v1 a) (h2 : RI w v2 b) (ha : a.natAbs < 2305843009213693952) (hb : b.natAbs < 2305843009213693952) :
    Calls Tryz.prog 72 #[v1, v2] w fun e w' => ∃ v, e = .returned v ∧ RI w' v (a + b) ∧ Up w w' := by
  obtain ⟨s, g, A, n, c, rfl, hs1, hs2, hn, hc⟩ := h1.open_
  obtain ⟨s2, g2, A2, n2, c2, rfl, hs3, hs4, hn2, hc2⟩ := h2.open_
  obtain ⟨rfl, rfl⟩ : n = 0 ∧ s = a := by rcases hc with ⟨h1, h2, h3⟩ | ⟨h1, h2, h3, h4, h5⟩ <;> first | exact ⟨h1, h2⟩ | omega
  obtain ⟨rfl, rfl⟩ : n2 = 0 ∧ s2 = b := by rcases hc2 with ⟨h1, h2, h3⟩ | ⟨h1, h2, h3, h4, h5⟩ <;> first | exact ⟨h1, h2⟩ | omega
  have HO := Lib.hid (fun W => refOf_any (s + s2) W (by omega) (by omega))
  clear h1 h2 hc hc2 ha hb
  go_enter Tryz.func72, Tryz.ntmps72
  go_wp2_with fail
  obtain ⟨wB, hwB, hc1, hc2, hr, hu0⟩ := startII w s g (.slice A 0 c) s2 g2 (.slice A2 0 c2)
  rw [hwB]
  clear hwB
  have HC1 := Lib.hid hc1
  have HC2 := Lib.hid hc2
  have HR := Lib.hid hr
  have HU := Lib.hid hu0
  clear hc1 hc2 hr hu0
  obtain ⟨a0, a1, a2, la⟩ := HC1.out.facts
  obtain ⟨b0, b1, b2, lb⟩ := HC2.out.facts
  go_wp2_with fail
  refine Calls.mono (HO.out _) ?_
  rintro e w1 ⟨v, rfl, hv, hu1⟩
  have HRU := Lib.hid (HR.out.up hu1)
  have HV2 := Lib.hid (fun x y u => hv.put (HR.out.up hu1) x y u)
  obtain ⟨s3, g3, A3, n3, c3, rfl, -⟩ := hv
  have HU1 := Lib.hid hu1
  clear hu1
  obtain ⟨r0, r1, r2, f0, f1, f2, lr⟩ := HRU.out.facts
  have HF := Lib.hid (HRU.out.stored (.int .i64 s3) (.bool g3) (.slice A3 n3 c3))
  have HUF := Lib.hid ((show Up w w1 by (repeat (first | exact Below.refl _ _ | exact Hid.out (by assumption) | refine Up.trans ?_ (Up.drew _) | refine Up.trans ?_ (Up.drewN _ _) | refine Up.trans ?_ (Up.alloc _ _) | refine Up.trans ?_ (Hid.out (by assumption))))).put3 (show w.heap.size ≤ w.heap.size + 1 + 1 by omega) (.int .i64 s3) (.bool g3) (.slice A3 n3 c3))
  go_wp2
  obtain ⟨z0, z1, z2⟩ := HF.out
  refine bodyPost_ret (by simp [results, Tryz.results72, go_sem, z0, z1, z2]; try rfl) rfl ?_
  exact ⟨_, rfl, HV2.out _ _ _, HUF.out⟩
set_option maxHeartbeats 2000000 in
set_option maxRecDepth 10000 in
theorem refPlus_big (v1 v2 : Value) (a b : Int) (w : World) (h1 : RI w v1 a) (h2 : RI w v2 b) (hbig : 2305843009213693952 ≤ a.natAbs ∨ (a.natAbs < 2305843009213693952 ∧ 2305843009213693952 ≤ b.natAbs)) (ha : rl a ≤ 536870912) (hb : rl b ≤ 536870912) :
    Calls Tryz.prog 72 #[v1, v2] w fun e w' => ∃ v, e = .returned v ∧ RI w' v (a + b) ∧ Up w w' := by
  have HLA := Lib.hid (fun W (hu : Up w W) => refList_any v1 a W (h1.up hu))
  have HLB := Lib.hid (fun W (hu : Up w W) => refList_any v2 b W (h2.up hu))
  obtain ⟨sa, hsa⟩ : ∃ sa, sa = a.sign := ⟨_, rfl⟩
  obtain ⟨sb, hsb⟩ : ∃ sb, sb = b.sign := ⟨_, rfl⟩
  have HSA := Lib.hid (fun W (hu : Up w W) => refSign_any v1 a W (h1.up hu))
  have HSB := Lib.hid (fun W (hu : Up w W) => refSign_any v2 b W (h2.up hu))
  rw [← hsa] at HSA
  rw [← hsb] at HSB
  have hx : sa < 0 ↔ a < 0 := by rw [hsa]; exact Int.sign_neg_iff
  have hy : sb < 0 ↔ b < 0 := by rw [hsb]; exact Int.sign_neg_iff
  have HX := Lib.hid hx
  have HY := Lib.hid hy
  obtain ⟨m, hm⟩ : ∃ m, m = a.natAbs := ⟨_, rfl⟩
  obtain ⟨k, hk⟩ : ∃ k, k = b.natAbs := ⟨_, rfl⟩
  have HM := Lib.hid hm
  have HK := Lib.hid hk
  have HSUM := Lib.hid (fun W x y (hx : Ev W x m) (hy : Ev W y k) => refSum_any x y _ _ W hx hy (digs_ok (by omega) m) (digs_ok (by omega) k) (by rw [hm]; exact Nat.le_trans ha (by omega)) (by rw [hk]; exact Nat.le_trans hb (by omega)))
  have HDF1 := Lib.hid (fun W x y (hx : Ev W x m) (hy : Ev W y k) (hle : k ≤ m) => refDif_any x y _ _ W hx hy (digs_ok (by omega) m) (digs_ok (by omega) k) (digs_len_le hle) (by rw [val_digs (by omega), val_digs (by omega)]; exact hle) (by rw [hm]; exact Nat.le_trans ha (by omega)))
  have HDF2 := Lib.hid (fun W x y (hx : Ev W x k) (hy : Ev W y m) (hle : m ≤ k) => refDif_any x y _ _ W hx hy (digs_ok (by omega) k) (digs_ok (by omega) m) (digs_len_le hle) (by rw [val_digs (by omega), val_digs (by omega)]; exact hle) (by rw [hk]; exact Nat.le_trans hb (by omega)))
  obtain ⟨cm, hcm⟩ : ∃ cm : Int, cm = ((m : Int) - k).sign := ⟨_, rfl⟩
  have HCMP := Lib.hid (fun W x y (hx : Ev W x m) (hy : Ev W y k) => refCmp_any x y m k W hx hy)
  rw [← hcm] at HCMP
  have HCM : Hid (0 ≤ cm ↔ k ≤ m) := by
    unfold Hid
    rw [hcm, Int.sign_nonneg_iff]; omega
  obtain ⟨s, g, A, n, c, rfl, hs1, hs2, hn, hc⟩ := h1.open_
  obtain ⟨s2, g2, A2, n2, c2, rfl, hs3, hs4, hn2, hc2⟩ := h2.open_
  have hnn : 0 < n ∨ (n = 0 ∧ 0 < n2) := by
    rcases hc with ⟨q1, q2, q3⟩ | ⟨q1, q2, q3, q4, q5⟩
    · rcases hc2 with ⟨q6, q7, q8⟩ | ⟨q6, q7, q8, q9, q10⟩
      · omega
      · exact .inr ⟨q1, q6⟩
    · exact .inl q1
  clear h1 h2 hc hc2 ha hb hs1 hs2 hs3 hs4 hbig hx hy hm hk hcm hsa hsb
  rcases hnn with hn0 | ⟨rfl, hn0⟩
  · go_enter Tryz.func72, Tryz.ntmps72
    go_wp2_with fail
    obtain ⟨wB, hwB, hc1, hc2, hr, hu0⟩ := startII w s g (.slice A n c) s2 g2 (.slice A2 n2 c2)
    rw [hwB]
    clear hwB
    have HC1 := Lib.hid hc1
    have HC2 := Lib.hid hc2
    have HR := Lib.hid hr
    have HU := Lib.hid hu0
    clear hc1 hc2 hr hu0
    obtain ⟨a0, a1, a2, la⟩ := HC1.out.facts
    obtain ⟨b0, b1, b2, lb⟩ := HC2.out.facts
    go_wp2_with fail
    have hne1 : (w.heap.size = w.heap.size + 1 + 1) = False := by simp; omega
    have hne2 : (w.heap.size + 1 + 1 = w.heap.size) = False := by simp; omega
    go_region_held3 (fun w' => w'.cell? ⟨w.heap.size, 0, none⟩ = some (.int .i64 s) ∧ w'.cell? ⟨w.heap.size, 1, none⟩ = some (.bool g) ∧ w'.cell? ⟨w.heap.size, 2, none⟩ = some (.slice A n c) ∧ w'.cell? ⟨w.heap.size + 1, 0, none⟩ = some (.int .i64 s2) ∧ w'.cell? ⟨w.heap.size + 1, 1, none⟩ = some (.bool g2) ∧ w'.cell? ⟨w.heap.size + 1, 2, none⟩ = some (.slice A2 n2 c2)) (go_keep)
      ((first
        | (go_at_call_of 109 (Value.agg #[.int .i64 s, .bool g, .slice A n c])
           refine Calls.mono (HLA.out _ (by (repeat (first | exact Below.refl _ _ | exact Hid.out (by assumption) | refine Up.trans ?_ (Up.drew _) | refine Up.trans ?_ (Up.drewN _ _) | refine Up.trans ?_ (Up.alloc _ _) | refine Up.trans ?_ (Hid.out (by assumption)))))) ?_
           rintro e w1 ⟨u1, rfl, hu1v, hu1⟩
           have HU1 := Lib.hid hu1
           have HV1 := Lib.hid hu1v
           clear hu1v hu1
           obtain ⟨a0, a1, a2, la⟩ := (HC1.out.up (w' := w1) (by (repeat (first | exact Below.refl _ _ | exact Hid.out (by assumption) | refine Up.trans ?_ (Up.drew _) | refine Up.trans ?_ (Up.drewN _ _) | refine Up.trans ?_ (Up.alloc _ _) | refine Up.trans ?_ (Hid.out (by assumption)))))).facts
           obtain ⟨b0, b1, b2, lb⟩ := (HC2.out.up (w' := w1) (by (repeat (first | exact Below.refl _ _ | exact Hid.out (by assumption) | refine Up.trans ?_ (Up.drew _) | refine Up.trans ?_ (Up.drewN _ _) | refine Up.trans ?_ (Up.alloc _ _) | refine Up.trans ?_ (Hid.out (by assumption)))))).facts)
        | (go_at_call_of 109 (Value.agg #[.int .i64 s2, .bool g2, .slice A2 n2 c2])
           refine Calls.mono (HLB.out _ (by (repeat (first | exact Below.refl _ _ | exact Hid.out (by assumption) | refine Up.trans ?_ (Up.drew _) | refine Up.trans ?_ (Up.drewN _ _) | refine Up.trans ?_ (Up.alloc _ _) | refine Up.trans ?_ (Hid.out (by assumption)))))) ?_
           rintro e w2 ⟨u2, rfl, hu2v, hu2⟩
           have HU2 := Lib.hid hu2
           have HV2 := Lib.hid hu2v
           have HV1b := Lib.hid (Sl.up HV1.out hu2)
           clear hu2v hu2
           obtain ⟨a0, a1, a2, la⟩ := (HC1.out.up (w' := w2) (by (repeat (first | exact Below.refl _ _ | exact Hid.out (by assumption) | refine Up.trans ?_ (Up.drew _) | refine Up.trans ?_ (Up.drewN _ _) | refine Up.trans ?_ (Up.alloc _ _) | refine Up.trans ?_ (Hid.out (by assumption)))))).facts
           obtain ⟨b0, b1, b2, lb⟩ := (HC2.out.up (w' := w2) (by (repeat (first | exact Below.refl _ _ | exact Hid.out (by assumption) | refine Up.trans ?_ (Up.drew _) | refine Up.trans ?_ (Up.drewN _ _) | refine Up.trans ?_ (Up.alloc _ _) | refine Up.trans ?_ (Hid.out (by assumption)))))).facts)))
    clear a0 a1 a2 la b0 b1 b2 lb
    have HV1c := Lib.hid HV1b.out
    rw [← HM.out] at HV1c
    have HV2c := Lib.hid HV2.out
    rw [← HK.out] at HV2c
    obtain ⟨a0, a1, a2, la⟩ := (HC1.out.up (w' := w2) (by (repeat (first | exact Below.refl _ _ | exact Hid.out (by assumption) | refine Up.trans ?_ (Up.drew _) | refine Up.trans ?_ (Up.drewN _ _) | refine Up.trans ?_ (Up.alloc _ _) | refine Up.trans ?_ (Hid.out (by assumption)))))).facts
    obtain ⟨b0, b1, b2, lb⟩ := (HC2.out.up (w' := w2) (by (repeat (first | exact Below.refl _ _ | exact Hid.out (by assumption) | refine Up.trans ?_ (Up.drew _) | refine Up.trans ?_ (Up.drewN _ _) | refine Up.trans ?_ (Up.alloc _ _) | refine Up.trans ?_ (Hid.out (by assumption)))))).facts
    clear HV1 HV1b HV2 HLA HLB
    go_upto_region 4 with fail
    go_region_held3 (fun w' => w'.cell? ⟨w.heap.size, 0, none⟩ = some (.int .i64 s) ∧ w'.cell? ⟨w.heap.size, 1, none⟩ = some (.bool g) ∧ w'.cell? ⟨w.heap.size, 2, none⟩ = some (.slice A n c) ∧ w'.cell? ⟨w.heap.size + 1, 0, none⟩ = some (.int .i64 s2) ∧ w'.cell? ⟨w.heap.size + 1, 1, none⟩ = some (.bool g2) ∧ w'.cell? ⟨w.heap.size + 1, 2, none⟩ = some (.slice A2 n2 c2)) (go_keep)
      ((first
        | (go_at_call_of 73 (Value.agg #[.int .i64 s, .bool g, .slice A n c])
           refine Calls.mono (HSA.out _ (by (repeat (first | exact Below.refl _ _ | exact Hid.out (by assumption) | refine Up.trans ?_ (Up.drew _) | refine Up.trans ?_ (Up.drewN _ _) | refine Up.trans ?_ (Up.alloc _ _) | refine Up.trans ?_ (Hid.out (by assumption)))))) ?_
           rintro e w3 ⟨rfl, hu3⟩
           have HU3 := Lib.hid hu3
           clear hu3
           obtain ⟨a0, a1, a2, la⟩ := (HC1.out.up (w' := w3) (by (repeat (first | exact Below.refl _ _ | exact Hid.out (by assumption) | refine Up.trans ?_ (Up.drew _) | refine Up.trans ?_ (Up.drewN _ _) | refine Up.trans ?_ (Up.alloc _ _) | refine Up.trans ?_ (Hid.out (by assumption)))))).facts
           obtain ⟨b0, b1, b2, lb⟩ := (HC2.out.up (w' := w3) (by (repeat (first | exact Below.refl _ _ | exact Hid.out (by assumption) | refine Up.trans ?_ (Up.drew _) | refine Up.trans ?_ (Up.drewN _ _) | refine Up.trans ?_ (Up.alloc _ _) | refine Up.trans ?_ (Hid.out (by assumption)))))).facts)
        | (go_at_call_of 73 (Value.agg #[.int .i64 s2, .bool g2, .slice A2 n2 c2])
           refine Calls.mono (HSB.out _ (by (repeat (first | exact Below.refl _ _ | exact Hid.out (by assumption) | refine Up.trans ?_ (Up.drew _) | refine Up.trans ?_ (Up.drewN _ _) | refine Up.trans ?_ (Up.alloc _ _) | refine Up.trans ?_ (Hid.out (by assumption)))))) ?_
           rintro e w4 ⟨rfl, hu4⟩
           have HU4 := Lib.hid hu4
           clear hu4
           obtain ⟨a0, a1, a2, la⟩ := (HC1.out.up (w' := w4) (by (repeat (first | exact Below.refl _ _ | exact Hid.out (by assumption) | refine Up.trans ?_ (Up.drew _) | refine Up.trans ?_ (Up.drewN _ _) | refine Up.trans ?_ (Up.alloc _ _) | refine Up.trans ?_ (Hid.out (by assumption)))))).facts
           obtain ⟨b0, b1, b2, lb⟩ := (HC2.out.up (w' := w4) (by (repeat (first | exact Below.refl _ _ | exact Hid.out (by assumption) | refine Up.trans ?_ (Up.drew _) | refine Up.trans ?_ (Up.drewN _ _) | refine Up.trans ?_ (Up.alloc _ _) | refine Up.trans ?_ (Hid.out (by assumption)))))).facts)))
    clear a0 a1 a2 la b0 b1 b2 lb
    have HX1 := Lib.hid (Sl.up HV1c.out (show Up w2 w4 by (repeat (first | exact Below.refl _ _ | exact Hid.out (by assumption) | refine Up.trans ?_ (Up.drew _) | refine Up.trans ?_ (Up.drewN _ _) | refine Up.trans ?_ (Up.alloc _ _) | refine Up.trans ?_ (Hid.out (by assumption))))))
    have HX2 := Lib.hid (Sl.up HV2c.out (show Up w2 w4 by (repeat (first | exact Below.refl _ _ | exact Hid.out (by assumption) | refine Up.trans ?_ (Up.drew _) | refine Up.trans ?_ (Up.drewN _ _) | refine Up.trans ?_ (Up.alloc _ _) | refine Up.trans ?_ (Hid.out (by assumption))))))
    have HR4 := Lib.hid (HR.out.up (w' := w4) (by (repeat (first | exact Below.refl _ _ | exact Hid.out (by assumption) | refine Up.trans ?_ (Up.drew _) | refine Up.trans ?_ (Up.drewN _ _) | refine Up.trans ?_ (Up.alloc _ _) | refine Up.trans ?_ (Hid.out (by assumption))))))
    have HUW := Lib.hid (show Up w w4 by (repeat (first | exact Below.refl _ _ | exact Hid.out (by assumption) | refine Up.trans ?_ (Up.drew _) | refine Up.trans ?_ (Up.drewN _ _) | refine Up.trans ?_ (Up.alloc _ _) | refine Up.trans ?_ (Hid.out (by assumption)))))
    clear HV1c HV2c HU1 HU2 HU3 HU4 HU HC1 HC2 HR HSA HSB
    go_upto_region 5 with fail
    have HRX := HR4
    obtain ⟨xa, hxa⟩ : ∃ xa, xa = decide (sa < 0) := ⟨_, rfl⟩
    obtain ⟨xb, hxb⟩ : ∃ xb, xb = decide (sb < 0) := ⟨_, rfl⟩
    rw [← hxa, ← hxb]
    have HXA := Lib.hid hxa
    have HXB := Lib.hid hxb
    clear hxa hxb
    cases xa
    · cases xb
      · go_wp2_with fail
        refine Calls.mono (HSUM.out _ _ _ HX1.out HX2.out) ?_
        rintro e w5 ⟨v5, zs, rfl, hsl, hzok, hzv, -, hu5⟩
        have HU5 := Lib.hid hu5
        have HMD := Lib.hid (refMade_any false v5 zs w5 hsl hzok)
        have HZV := Lib.hid hzv
        have HR5 := Lib.hid (HR4.out.up hu5)
        clear hsl hzok hzv hu5
        go_wp2_with fail
        refine Calls.mono HMD.out ?_
        rintro e wF ⟨vF, rfl, hvF0, huF⟩
        have hvF : RI wF vF (a + b) := by
          have h := hvF0
          rw [HZV.out, val_digs (by omega), val_digs (by omega)] at h
          have h1 := HM.out
          have h2 := HK.out
          have h3 : ¬ a < 0 := fun h => of_decide_eq_false HXA.out.symm (HX.out.2 h)
          have h4 : ¬ b < 0 := fun h => of_decide_eq_false HXB.out.symm (HY.out.2 h)
          have h5 : a + b = ((m + k : Nat) : Int) := by omega
          rw [h5]
          simpa using h
        clear hvF0
        have HRF := Lib.hid (HR5.out.up huF)
        have HVF := Lib.hid (fun x y u => hvF.put HRF.out x y u)
        obtain ⟨s3, g3, A3, n3, c3, rfl, -⟩ := hvF
        have HUFF := Lib.hid huF
        clear huF
        obtain ⟨r0, r1, r2, f0, f1, f2, lr⟩ := HRF.out.facts
        have HF := Lib.hid (HRF.out.stored (.int .i64 s3) (.bool g3) (.slice A3 n3 c3))
        have HUF := Lib.hid ((show Up w wF by (repeat (first | exact Below.refl _ _ | exact Hid.out (by assumption) | refine Up.trans ?_ (Up.drew _) | refine Up.trans ?_ (Up.drewN _ _) | refine Up.trans ?_ (Up.alloc _ _) | refine Up.trans ?_ (Hid.out (by assumption))))).put3 (show w.heap.size ≤ w.heap.size + 1 + 1 by omega) (.int .i64 s3) (.bool g3) (.slice A3 n3 c3))
        go_wp2
        obtain ⟨z0, z1, z2⟩ := HF.out
        refine bodyPost_ret (by simp [results, Tryz.results72, go_sem, z0, z1, z2]; try rfl) rfl ?_
        exact ⟨_, rfl, HVF.out _ _ _, HUF.out⟩
      · rcases Int.lt_or_le cm 0 with hcm | hcm
        · have HLE : Hid (m ≤ k) := by
            have h := HCM.out
            unfold Hid
            omega
          go_wp2_with fail
          refine Calls.mono (HCMP.out _ _ _ HX1.out HX2.out) ?_
          rintro e w5 ⟨rfl, q, rfl⟩
          have HU5 := Lib.hid (Up.drewN w4 q)
          have HX1b := Lib.hid (Sl.drewN HX1.out q)
          have HX2b := Lib.hid (Sl.drewN HX2.out q)
          go_wp2_with fail
          refine Calls.mono (HDF2.out _ _ _ HX2b.out HX1b.out HLE.out) ?_
          rintro e w6 ⟨v6, zs, rfl, hown, hzok, hzv, -, hu6⟩
          have HU6 := Lib.hid hu6
          have HMD := Lib.hid (refMade_any true v6 zs w6 hown.sl hzok)
          have HZV := Lib.hid hzv
          have HR5 := Lib.hid ((HR4.out.drewN q).up hu6)
          clear hown hzok hzv hu6
          go_wp2_with fail
          refine Calls.mono HMD.out ?_
          rintro e wF ⟨vF, rfl, hvF0, huF⟩
          have hvF : RI wF vF (a + b) := by
            have h := hvF0
            rw [HZV.out, val_digs (by omega), val_digs (by omega)] at h
            have h1 := HM.out
            have h2 := HK.out
            have h3 : ¬ a < 0 := fun h => of_decide_eq_false HXA.out.symm (HX.out.2 h)
            have h4 :  b < 0 := HY.out.1 (of_decide_eq_true HXB.out.symm)
            have h6 := HLE.out
            have h5 : a + b = -((k - m : Nat) : Int) := by omega
            rw [h5]
            simpa using h
          clear hvF0
          have HRF := Lib.hid (HR5.out.up huF)
          have HVF := Lib.hid (fun x y u => hvF.put HRF.out x y u)
          obtain ⟨s3, g3, A3, n3, c3, rfl, -⟩ := hvF
          have HUFF := Lib.hid huF
          clear huF
          obtain ⟨r0, r1, r2, f0, f1, f2, lr⟩ := HRF.out.facts
          have HF := Lib.hid (HRF.out.stored (.int .i64 s3) (.bool g3) (.slice A3 n3 c3))
          have HUF := Lib.hid ((show Up w wF by (repeat (first | exact Below.refl _ _ | exact Hid.out (by assumption) | refine Up.trans ?_ (Up.drew _) | refine Up.trans ?_ (Up.drewN _ _) | refine Up.trans ?_ (Up.alloc _ _) | refine Up.trans ?_ (Hid.out (by assumption))))).put3 (show w.heap.size ≤ w.heap.size + 1 + 1 by omega) (.int .i64 s3) (.bool g3) (.slice A3 n3 c3))
          go_wp2
          obtain ⟨z0, z1, z2⟩ := HF.out
          refine bodyPost_ret (by simp [results, Tryz.results72, go_sem, z0, z1, z2]; try rfl) rfl ?_
          exact ⟨_, rfl, HVF.out _ _ _, HUF.out⟩
        · have HLE : Hid (k ≤ m) := by
            have h := HCM.out
            unfold Hid
            omega
          go_wp2_with fail
          refine Calls.mono (HCMP.out _ _ _ HX1.out HX2.out) ?_
          rintro e w5 ⟨rfl, q, rfl⟩
          have HU5 := Lib.hid (Up.drewN w4 q)
          have HX1b := Lib.hid (Sl.drewN HX1.out q)
          have HX2b := Lib.hid (Sl.drewN HX2.out q)
          go_wp2_with fail
          refine Calls.mono (HDF1.out _ _ _ HX1b.out HX2b.out HLE.out) ?_
          rintro e w6 ⟨v6, zs, rfl, hown, hzok, hzv, -, hu6⟩
          have HU6 := Lib.hid hu6
          have HMD := Lib.hid (refMade_any false v6 zs w6 hown.sl hzok)
          have HZV := Lib.hid hzv
          have HR5 := Lib.hid ((HR4.out.drewN q).up hu6)
          clear hown hzok hzv hu6
          go_wp2_with fail
          refine Calls.mono HMD.out ?_
          rintro e wF ⟨vF, rfl, hvF0, huF⟩
          have hvF : RI wF vF (a + b) := by
            have h := hvF0
            rw [HZV.out, val_digs (by omega), val_digs (by omega)] at h
            have h1 := HM.out
            have h2 := HK.out
            have h3 : ¬ a < 0 := fun h => of_decide_eq_false HXA.out.symm (HX.out.2 h)
            have h4 :  b < 0 := HY.out.1 (of_decide_eq_true HXB.out.symm)
            have h6 := HLE.out
            have h5 : a + b = ((m - k : Nat) : Int) := by omega
            rw [h5]
            simpa using h
          clear hvF0
          have HRF := Lib.hid (HR5.out.up huF)
          have HVF := Lib.hid (fun x y u => hvF.put HRF.out x y u)
          obtain ⟨s3, g3, A3, n3, c3, rfl, -⟩ := hvF
          have HUFF := Lib.hid huF
          clear huF
          obtain ⟨r0, r1, r2, f0, f1, f2, lr⟩ := HRF.out.facts
          have HF := Lib.hid (HRF.out.stored (.int .i64 s3) (.bool g3) (.slice A3 n3 c3))
          have HUF := Lib.hid ((show Up w wF by (repeat (first | exact Below.refl _ _ | exact Hid.out (by assumption) | refine Up.trans ?_ (Up.drew _) | refine Up.trans ?_ (Up.drewN _ _) | refine Up.trans ?_ (Up.alloc _ _) | refine Up.trans ?_ (Hid.out (by assumption))))).put3 (show w.heap.size ≤ w.heap.size + 1 + 1 by omega) (.int .i64 s3) (.bool g3) (.slice A3 n3 c3))
          go_wp2
          obtain ⟨z0, z1, z2⟩ := HF.out
          refine bodyPost_ret (by simp [results, Tryz.results72, go_sem, z0, z1, z2]; try rfl) rfl ?_
          exact ⟨_, rfl, HVF.out _ _ _, HUF.out⟩
    · cases xb
      · rcases Int.lt_or_le cm 0 with hcm | hcm
        · have HLE : Hid (m ≤ k) := by
            have h := HCM.out
            unfold Hid
            omega
          go_wp2_with fail
          refine Calls.mono (HCMP.out _ _ _ HX1.out HX2.out) ?_
          rintro e w5 ⟨rfl, q, rfl⟩
          have HU5 := Lib.hid (Up.drewN w4 q)
          have HX1b := Lib.hid (Sl.drewN HX1.out q)
          have HX2b := Lib.hid (Sl.drewN HX2.out q)
          go_wp2_with fail
          refine Calls.mono (HDF2.out _ _ _ HX2b.out HX1b.out HLE.out) ?_
          rintro e w6 ⟨v6, zs, rfl, hown, hzok, hzv, -, hu6⟩
          have HU6 := Lib.hid hu6
          have HMD := Lib.hid (refMade_any false v6 zs w6 hown.sl hzok)
          have HZV := Lib.hid hzv
          have HR5 := Lib.hid ((HR4.out.drewN q).up hu6)
          clear hown hzok hzv hu6
          go_wp2_with fail
          refine Calls.mono HMD.out ?_
          rintro e wF ⟨vF, rfl, hvF0, huF⟩
          have hvF : RI wF vF (a + b) := by
            have h := hvF0
            rw [HZV.out, val_digs (by omega), val_digs (by omega)] at h
            have h1 := HM.out
            have h2 := HK.out
            have h3 :  a < 0 := HX.out.1 (of_decide_eq_true HXA.out.symm)
            have h4 : ¬ b < 0 := fun h => of_decide_eq_false HXB.out.symm (HY.out.2 h)
            have h6 := HLE.out
            have h5 : a + b = ((k - m : Nat) : Int) := by omega
            rw [h5]
            simpa using h
          clear hvF0
          have HRF := Lib.hid (HR5.out.up huF)
          have HVF := Lib.hid (fun x y u => hvF.put HRF.out x y u)
          obtain ⟨s3, g3, A3, n3, c3, rfl, -⟩ := hvF
          have HUFF := Lib.hid huF
          clear huF
          obtain ⟨r0, r1, r2, f0, f1, f2, lr⟩ := HRF.out.facts
          have HF := Lib.hid (HRF.out.stored (.int .i64 s3) (.bool g3) (.slice A3 n3 c3))
          have HUF := Lib.hid ((show Up w wF by (repeat (first | exact Below.refl _ _ | exact Hid.out (by assumption) | refine Up.trans ?_ (Up.drew _) | refine Up.trans ?_ (Up.drewN _ _) | refine Up.trans ?_ (Up.alloc _ _) | refine Up.trans ?_ (Hid.out (by assumption))))).put3 (show w.heap.size ≤ w.heap.size + 1 + 1 by omega) (.int .i64 s3) (.bool g3) (.slice A3 n3 c3))
          go_wp2
          obtain ⟨z0, z1, z2⟩ := HF.out
          refine bodyPost_ret (by simp [results, Tryz.results72, go_sem, z0, z1, z2]; try rfl) rfl ?_
          exact ⟨_, rfl, HVF.out _ _ _, HUF.out⟩
        · have HLE : Hid (k ≤ m) := by
            have h := HCM.out
            unfold Hid
            omega
          go_wp2_with fail
          refine Calls.mono (HCMP.out _ _ _ HX1.out HX2.out) ?_
          rintro e w5 ⟨rfl, q, rfl⟩
          have HU5 := Lib.hid (Up.drewN w4 q)
          have HX1b := Lib.hid (Sl.drewN HX1.out q)
          have HX2b := Lib.hid (Sl.drewN HX2.out q)
          go_wp2_with fail
          refine Calls.mono (HDF1.out _ _ _ HX1b.out HX2b.out HLE.out) ?_
          rintro e w6 ⟨v6, zs, rfl, hown, hzok, hzv, -, hu6⟩
          have HU6 := Lib.hid hu6
          have HMD := Lib.hid (refMade_any true v6 zs w6 hown.sl hzok)
          have HZV := Lib.hid hzv
          have HR5 := Lib.hid ((HR4.out.drewN q).up hu6)
          clear hown hzok hzv hu6
          go_wp2_with fail
          refine Calls.mono HMD.out ?_
          rintro e wF ⟨vF, rfl, hvF0, huF⟩
          have hvF : RI wF vF (a + b) := by
            have h := hvF0
            rw [HZV.out, val_digs (by omega), val_digs (by omega)] at h
            have h1 := HM.out
            have h2 := HK.out
            have h3 :  a < 0 := HX.out.1 (of_decide_eq_true HXA.out.symm)
            have h4 : ¬ b < 0 := fun h => of_decide_eq_false HXB.out.symm (HY.out.2 h)
            have h6 := HLE.out
            have h5 : a + b = -((m - k : Nat) : Int) := by omega
            rw [h5]
            simpa using h
          clear hvF0
          have HRF := Lib.hid (HR5.out.up huF)
          have HVF := Lib.hid (fun x y u => hvF.put HRF.out x y u)
          obtain ⟨s3, g3, A3, n3, c3, rfl, -⟩ := hvF
          have HUFF := Lib.hid huF
          clear huF
          obtain ⟨r0, r1, r2, f0, f1, f2, lr⟩ := HRF.out.facts
          have HF := Lib.hid (HRF.out.stored (.int .i64 s3) (.bool g3) (.slice A3 n3 c3))
          have HUF := Lib.hid ((show Up w wF by (repeat (first | exact Below.refl _ _ | exact Hid.out (by assumption) | refine Up.trans ?_ (Up.drew _) | refine Up.trans ?_ (Up.drewN _ _) | refine Up.trans ?_ (Up.alloc _ _) | refine Up.trans ?_ (Hid.out (by assumption))))).put3 (show w.heap.size ≤ w.heap.size + 1 + 1 by omega) (.int .i64 s3) (.bool g3) (.slice A3 n3 c3))
          go_wp2
          obtain ⟨z0, z1, z2⟩ := HF.out
          refine bodyPost_ret (by simp [results, Tryz.results72, go_sem, z0, z1, z2]; try rfl) rfl ?_
          exact ⟨_, rfl, HVF.out _ _ _, HUF.out⟩
      · go_wp2_with fail
        refine Calls.mono (HSUM.out _ _ _ HX1.out HX2.out) ?_
        rintro e w5 ⟨v5, zs, rfl, hsl, hzok, hzv, -, hu5⟩
        have HU5 := Lib.hid hu5
        have HMD := Lib.hid (refMade_any true v5 zs w5 hsl hzok)
        have HZV := Lib.hid hzv
        have HR5 := Lib.hid (HR4.out.up hu5)
        clear hsl hzok hzv hu5
        go_wp2_with fail
        refine Calls.mono HMD.out ?_
        rintro e wF ⟨vF, rfl, hvF0, huF⟩
        have hvF : RI wF vF (a + b) := by
          have h := hvF0
          rw [HZV.out, val_digs (by omega), val_digs (by omega)] at h
          have h1 := HM.out
          have h2 := HK.out
          have h3 :  a < 0 := HX.out.1 (of_decide_eq_true HXA.out.symm)
          have h4 :  b < 0 := HY.out.1 (of_decide_eq_true HXB.out.symm)
          have h5 : a + b = -((m + k : Nat) : Int) := by omega
          rw [h5]
          simpa using h
        clear hvF0
        have HRF := Lib.hid (HR5.out.up huF)
        have HVF := Lib.hid (fun x y u => hvF.put HRF.out x y u)
        obtain ⟨s3, g3, A3, n3, c3, rfl, -⟩ := hvF
        have HUFF := Lib.hid huF
        clear huF
        obtain ⟨r0, r1, r2, f0, f1, f2, lr⟩ := HRF.out.facts
        have HF := Lib.hid (HRF.out.stored (.int .i64 s3) (.bool g3) (.slice A3 n3 c3))
        have HUF := Lib.hid ((show Up w wF by (repeat (first | exact Below.refl _ _ | exact Hid.out (by assumption) | refine Up.trans ?_ (Up.drew _) | refine Up.trans ?_ (Up.drewN _ _) | refine Up.trans ?_ (Up.alloc _ _) | refine Up.trans ?_ (Hid.out (by assumption))))).put3 (show w.heap.size ≤ w.heap.size + 1 + 1 by omega) (.int .i64 s3) (.bool g3) (.slice A3 n3 c3))
        go_wp2
        obtain ⟨z0, z1, z2⟩ := HF.out
        refine bodyPost_ret (by simp [results, Tryz.results72, go_sem, z0, z1, z2]; try rfl) rfl ?_
        exact ⟨_, rfl, HVF.out _ _ _, HUF.out⟩
  · go_enter Tryz.func72, Tryz.ntmps72
    go_wp2_with fail
    obtain ⟨wB, hwB, hc1, hc2, hr, hu0⟩ := startII w s g (.slice A 0 c) s2 g2 (.slice A2 n2 c2)
    rw [hwB]
    clear hwB
    have HC1 := Lib.hid hc1
    have HC2 := Lib.hid hc2
    have HR := Lib.hid hr
    have HU := Lib.hid hu0
    clear hc1 hc2 hr hu0
    obtain ⟨a0, a1, a2, la⟩ := HC1.out.facts
    obtain ⟨b0, b1, b2, lb⟩ := HC2.out.facts
    go_wp2_with fail
    have hne1 : (w.heap.size = w.heap.size + 1 + 1) = False := by simp; omega
    have hne2 : (w.heap.size + 1 + 1 = w.heap.size) = False := by simp; omega
    go_region_held3 (fun w' => w'.cell? ⟨w.heap.size, 0, none⟩ = some (.int .i64 s) ∧ w'.cell? ⟨w.heap.size, 1, none⟩ = some (.bool g) ∧ w'.cell? ⟨w.heap.size, 2, none⟩ = some (.slice A 0 c) ∧ w'.cell? ⟨w.heap.size + 1, 0, none⟩ = some (.int .i64 s2) ∧ w'.cell? ⟨w.heap.size + 1, 1, none⟩ = some (.bool g2) ∧ w'.cell? ⟨w.heap.size + 1, 2, none⟩ = some (.slice A2 n2 c2)) (go_keep)
      ((first
        | (go_at_call_of 109 (Value.agg #[.int .i64 s, .bool g, .slice A 0 c])
           refine Calls.mono (HLA.out _ (by (repeat (first | exact Below.refl _ _ | exact Hid.out (by assumption) | refine Up.trans ?_ (Up.drew _) | refine Up.trans ?_ (Up.drewN _ _) | refine Up.trans ?_ (Up.alloc _ _) | refine Up.trans ?_ (Hid.out (by assumption)))))) ?_
           rintro e w1 ⟨u1, rfl, hu1v, hu1⟩
           have HU1 := Lib.hid hu1
           have HV1 := Lib.hid hu1v
           clear hu1v hu1
           obtain ⟨a0, a1, a2, la⟩ := (HC1.out.up (w' := w1) (by (repeat (first | exact Below.refl _ _ | exact Hid.out (by assumption) | refine Up.trans ?_ (Up.drew _) | refine Up.trans ?_ (Up.drewN _ _) | refine Up.trans ?_ (Up.alloc _ _) | refine Up.trans ?_ (Hid.out (by assumption)))))).facts
           obtain ⟨b0, b1, b2, lb⟩ := (HC2.out.up (w' := w1) (by (repeat (first | exact Below.refl _ _ | exact Hid.out (by assumption) | refine Up.trans ?_ (Up.drew _) | refine Up.trans ?_ (Up.drewN _ _) | refine Up.trans ?_ (Up.alloc _ _) | refine Up.trans ?_ (Hid.out (by assumption)))))).facts)
        | (go_at_call_of 109 (Value.agg #[.int .i64 s2, .bool g2, .slice A2 n2 c2])
           refine Calls.mono (HLB.out _ (by (repeat (first | exact Below.refl _ _ | exact Hid.out (by assumption) | refine Up.trans ?_ (Up.drew _) | refine Up.trans ?_ (Up.drewN _ _) | refine Up.trans ?_ (Up.alloc _ _) | refine Up.trans ?_ (Hid.out (by assumption)))))) ?_
           rintro e w2 ⟨u2, rfl, hu2v, hu2⟩
           have HU2 := Lib.hid hu2
           have HV2 := Lib.hid hu2v
           have HV1b := Lib.hid (Sl.up HV1.out hu2)
           clear hu2v hu2
           obtain ⟨a0, a1, a2, la⟩ := (HC1.out.up (w' := w2) (by (repeat (first | exact Below.refl _ _ | exact Hid.out (by assumption) | refine Up.trans ?_ (Up.drew _) | refine Up.trans ?_ (Up.drewN _ _) | refine Up.trans ?_ (Up.alloc _ _) | refine Up.trans ?_ (Hid.out (by assumption)))))).facts
           obtain ⟨b0, b1, b2, lb⟩ := (HC2.out.up (w' := w2) (by (repeat (first | exact Below.refl _ _ | exact Hid.out (by assumption) | refine Up.trans ?_ (Up.drew _) | refine Up.trans ?_ (Up.drewN _ _) | refine Up.trans ?_ (Up.alloc _ _) | refine Up.trans ?_ (Hid.out (by assumption)))))).facts)))
    clear a0 a1 a2 la b0 b1 b2 lb
    have HV1c := Lib.hid HV1b.out
    rw [← HM.out] at HV1c
    have HV2c := Lib.hid HV2.out
    rw [← HK.out] at HV2c
    obtain ⟨a0, a1, a2, la⟩ := (HC1.out.up (w' := w2) (by (repeat (first | exact Below.refl _ _ | exact Hid.out (by assumption) | refine Up.trans ?_ (Up.drew _) | refine Up.trans ?_ (Up.drewN _ _) | refine Up.trans ?_ (Up.alloc _ _) | refine Up.trans ?_ (Hid.out (by assumption)))))).facts
    obtain ⟨b0, b1, b2, lb⟩ := (HC2.out.up (w' := w2) (by (repeat (first | exact Below.refl _ _ | exact Hid.out (by assumption) | refine Up.trans ?_ (Up.drew _) | refine Up.trans ?_ (Up.drewN _ _) | refine Up.trans ?_ (Up.alloc _ _) | refine Up.trans ?_ (Hid.out (by assumption)))))).facts
    clear HV1 HV1b HV2 HLA HLB
    go_upto_region 4 with fail
    go_region_held3 (fun w' => w'.cell? ⟨w.heap.size, 0, none⟩ = some (.int .i64 s) ∧ w'.cell? ⟨w.heap.size, 1, none⟩ = some (.bool g) ∧ w'.cell? ⟨w.heap.size, 2, none⟩ = some (.slice A 0 c) ∧ w'.cell? ⟨w.heap.size + 1, 0, none⟩ = some (.int .i64 s2) ∧ w'.cell? ⟨w.heap.size + 1, 1, none⟩ = some (.bool g2) ∧ w'.cell? ⟨w.heap.size + 1, 2, none⟩ = some (.slice A2 n2 c2)) (go_keep)
      ((first
        | (go_at_call_of 73 (Value.agg #[.int .i64 s, .bool g, .slice A 0 c])
           refine Calls.mono (HSA.out _ (by (repeat (first | exact Below.refl _ _ | exact Hid.out (by assumption) | refine Up.trans ?_ (Up.drew _) | refine Up.trans ?_ (Up.drewN _ _) | refine Up.trans ?_ (Up.alloc _ _) | refine Up.trans ?_ (Hid.out (by assumption)))))) ?_
           rintro e w3 ⟨rfl, hu3⟩
           have HU3 := Lib.hid hu3
           clear hu3
           obtain ⟨a0, a1, a2, la⟩ := (HC1.out.up (w' := w3) (by (repeat (first | exact Below.refl _ _ | exact Hid.out (by assumption) | refine Up.trans ?_ (Up.drew _) | refine Up.trans ?_ (Up.drewN _ _) | refine Up.trans ?_ (Up.alloc _ _) | refine Up.trans ?_ (Hid.out (by assumption)))))).facts
           obtain ⟨b0, b1, b2, lb⟩ := (HC2.out.up (w' := w3) (by (repeat (first | exact Below.refl _ _ | exact Hid.out (by assumption) | refine Up.trans ?_ (Up.drew _) | refine Up.trans ?_ (Up.drewN _ _) | refine Up.trans ?_ (Up.alloc _ _) | refine Up.trans ?_ (Hid.out (by assumption)))))).facts)
        | (go_at_call_of 73 (Value.agg #[.int .i64 s2, .bool g2, .slice A2 n2 c2])
           refine Calls.mono (HSB.out _ (by (repeat (first | exact Below.refl _ _ | exact Hid.out (by assumption) | refine Up.trans ?_ (Up.drew _) | refine Up.trans ?_ (Up.drewN _ _) | refine Up.trans ?_ (Up.alloc _ _) | refine Up.trans ?_ (Hid.out (by assumption)))))) ?_
           rintro e w4 ⟨rfl, hu4⟩
           have HU4 := Lib.hid hu4
           clear hu4
           obtain ⟨a0, a1, a2, la⟩ := (HC1.out.up (w' := w4) (by (repeat (first | exact Below.refl _ _ | exact Hid.out (by assumption) | refine Up.trans ?_ (Up.drew _) | refine Up.trans ?_ (Up.drewN _ _) | refine Up.trans ?_ (Up.alloc _ _) | refine Up.trans ?_ (Hid.out (by assumption)))))).facts
           obtain ⟨b0, b1, b2, lb⟩ := (HC2.out.up (w' := w4) (by (repeat (first | exact Below.refl _ _ | exact Hid.out (by assumption) | refine Up.trans ?_ (Up.drew _) | refine Up.trans ?_ (Up.drewN _ _) | refine Up.trans ?_ (Up.alloc _ _) | refine Up.trans ?_ (Hid.out (by assumption)))))).facts)))
    clear a0 a1 a2 la b0 b1 b2 lb
    have HX1 := Lib.hid (Sl.up HV1c.out (show Up w2 w4 by (repeat (first | exact Below.refl _ _ | exact Hid.out (by assumption) | refine Up.trans ?_ (Up.drew _) | refine Up.trans ?_ (Up.drewN _ _) | refine Up.trans ?_ (Up.alloc _ _) | refine Up.trans ?_ (Hid.out (by assumption))))))
    have HX2 := Lib.hid (Sl.up HV2c.out (show Up w2 w4 by (repeat (first | exact Below.refl _ _ | exact Hid.out (by assumption) | refine Up.trans ?_ (Up.drew _) | refine Up.trans ?_ (Up.drewN _ _) | refine Up.trans ?_ (Up.alloc _ _) | refine Up.trans ?_ (Hid.out (by assumption))))))
    have HR4 := Lib.hid (HR.out.up (w' := w4) (by (repeat (first | exact Below.refl _ _ | exact Hid.out (by assumption) | refine Up.trans ?_ (Up.drew _) | refine Up.trans ?_ (Up.drewN _ _) | refine Up.trans ?_ (Up.alloc _ _) | refine Up.trans ?_ (Hid.out (by assumption))))))
    have HUW := Lib.hid (show Up w w4 by (repeat (first | exact Below.refl _ _ | exact Hid.out (by assumption) | refine Up.trans ?_ (Up.drew _) | refine Up.trans ?_ (Up.drewN _ _) | refine Up.trans ?_ (Up.alloc _ _) | refine Up.trans ?_ (Hid.out (by assumption)))))
    clear HV1c HV2c HU1 HU2 HU3 HU4 HU HC1 HC2 HR HSA HSB
    go_upto_region 5 with fail
    have HRX := HR4
    obtain ⟨xa, hxa⟩ : ∃ xa, xa = decide (sa < 0) := ⟨_, rfl⟩
    obtain ⟨xb, hxb⟩ : ∃ xb, xb = decide (sb < 0) := ⟨_, rfl⟩
    rw [← hxa, ← hxb]
    have HXA := Lib.hid hxa
    have HXB := Lib.hid hxb
    clear hxa hxb
    cases xa
    · cases xb
      · go_wp2_with fail
        refine Calls.mono (HSUM.out _ _ _ HX1.out HX2.out) ?_
        rintro e w5 ⟨v5, zs, rfl, hsl, hzok, hzv, -, hu5⟩
        have HU5 := Lib.hid hu5
        have HMD := Lib.hid (refMade_any false v5 zs w5 hsl hzok)
        have HZV := Lib.hid hzv
        have HR5 := Lib.hid (HR4.out.up hu5)
        clear hsl hzok hzv hu5
        go_wp2_with fail
        refine Calls.mono HMD.out ?_
        rintro e wF ⟨vF, rfl, hvF0, huF⟩
        have hvF : RI wF vF (a + b) := by
          have h := hvF0
          rw [HZV.out, val_digs (by omega), val_digs (by omega)] at h
          have h1 := HM.out
          have h2 := HK.out
          have h3 : ¬ a < 0 := fun h => of_decide_eq_false HXA.out.symm (HX.out.2 h)
          have h4 : ¬ b < 0 := fun h => of_decide_eq_false HXB.out.symm (HY.out.2 h)
          have h5 : a + b = ((m + k : Nat) : Int) := by omega
          rw [h5]
          simpa using h
        clear hvF0
        have HRF := Lib.hid (HR5.out.up huF)
        have HVF := Lib.hid (fun x y u => hvF.put HRF.out x y u)
        obtain ⟨s3, g3, A3, n3, c3, rfl, -⟩ := hvF
        have HUFF := Lib.hid huF
        clear huF
        obtain ⟨r0, r1, r2, f0, f1, f2, lr⟩ := HRF.out.facts
        have HF := Lib.hid (HRF.out.stored (.int .i64 s3) (.bool g3) (.slice A3 n3 c3))
        have HUF := Lib.hid ((show Up w wF by (repeat (first | exact Below.refl _ _ | exact Hid.out (by assumption) | refine Up.trans ?_ (Up.drew _) | refine Up.trans ?_ (Up.drewN _ _) | refine Up.trans ?_ (Up.alloc _ _) | refine Up.trans ?_ (Hid.out (by assumption))))).put3 (show w.heap.size ≤ w.heap.size + 1 + 1 by omega) (.int .i64 s3) (.bool g3) (.slice A3 n3 c3))
        go_wp2
        obtain ⟨z0, z1, z2⟩ := HF.out
        refine bodyPost_ret (by simp [results, Tryz.results72, go_sem, z0, z1, z2]; try rfl) rfl ?_
        exact ⟨_, rfl, HVF.out _ _ _, HUF.out⟩
      · rcases Int.lt_or_le cm 0 with hcm | hcm
        · have HLE : Hid (m ≤ k) := by
            have h := HCM.out
            unfold Hid
            omega
          go_wp2_with fail
          refine Calls.mono (HCMP.out _ _ _ HX1.out HX2.out) ?_
          rintro e w5 ⟨rfl, q, rfl⟩
          have HU5 := Lib.hid (Up.drewN w4 q)
          have HX1b := Lib.hid (Sl.drewN HX1.out q)
          have HX2b := Lib.hid (Sl.drewN HX2.out q)
          go_wp2_with fail
          refine Calls.mono (HDF2.out _ _ _ HX2b.out HX1b.out HLE.out) ?_
          rintro e w6 ⟨v6, zs, rfl, hown, hzok, hzv, -, hu6⟩
          have HU6 := Lib.hid hu6
          have HMD := Lib.hid (refMade_any true v6 zs w6 hown.sl hzok)
          have HZV := Lib.hid hzv
          have HR5 := Lib.hid ((HR4.out.drewN q).up hu6)
          clear hown hzok hzv hu6
          go_wp2_with fail
          refine Calls.mono HMD.out ?_
          rintro e wF ⟨vF, rfl, hvF0, huF⟩
          have hvF : RI wF vF (a + b) := by
            have h := hvF0
            rw [HZV.out, val_digs (by omega), val_digs (by omega)] at h
            have h1 := HM.out
            have h2 := HK.out
            have h3 : ¬ a < 0 := fun h => of_decide_eq_false HXA.out.symm (HX.out.2 h)
            have h4 :  b < 0 := HY.out.1 (of_decide_eq_true HXB.out.symm)
            have h6 := HLE.out
            have h5 : a + b = -((k - m : Nat) : Int) := by omega
            rw [h5]
            simpa using h
          clear hvF0
          have HRF := Lib.hid (HR5.out.up huF)
          have HVF := Lib.hid (fun x y u => hvF.put HRF.out x y u)
          obtain ⟨s3, g3, A3, n3, c3, rfl, -⟩ := hvF
          have HUFF := Lib.hid huF
          clear huF
          obtain ⟨r0, r1, r2, f0, f1, f2, lr⟩ := HRF.out.facts
          have HF := Lib.hid (HRF.out.stored (.int .i64 s3) (.bool g3) (.slice A3 n3 c3))
          have HUF := Lib.hid ((show Up w wF by (repeat (first | exact Below.refl _ _ | exact Hid.out (by assumption) | refine Up.trans ?_ (Up.drew _) | refine Up.trans ?_ (Up.drewN _ _) | refine Up.trans ?_ (Up.alloc _ _) | refine Up.trans ?_ (Hid.out (by assumption))))).put3 (show w.heap.size ≤ w.heap.size + 1 + 1 by omega) (.int .i64 s3) (.bool g3) (.slice A3 n3 c3))
          go_wp2
          obtain ⟨z0, z1, z2⟩ := HF.out
          refine bodyPost_ret (by simp [results, Tryz.results72, go_sem, z0, z1, z2]; try rfl) rfl ?_
          exact ⟨_, rfl, HVF.out _ _ _, HUF.out⟩
        · have HLE : Hid (k ≤ m) := by
            have h := HCM.out
            unfold Hid
            omega
          go_wp2_with fail
          refine Calls.mono (HCMP.out _ _ _ HX1.out HX2.out) ?_
          rintro e w5 ⟨rfl, q, rfl⟩
          have HU5 := Lib.hid (Up.drewN w4 q)
          have HX1b := Lib.hid (Sl.drewN HX1.out q)
          have HX2b := Lib.hid (Sl.drewN HX2.out q)
          go_wp2_with fail
          refine Calls.mono (HDF1.out _ _ _ HX1b.out HX2b.out HLE.out) ?_
          rintro e w6 ⟨v6, zs, rfl, hown, hzok, hzv, -, hu6⟩
          have HU6 := Lib.hid hu6
          have HMD := Lib.hid (refMade_any false v6 zs w6 hown.sl hzok)
          have HZV := Lib.hid hzv
          have HR5 := Lib.hid ((HR4.out.drewN q).up hu6)
          clear hown hzok hzv hu6
          go_wp2_with fail
          refine Calls.mono HMD.out ?_
          rintro e wF ⟨vF, rfl, hvF0, huF⟩
          have hvF : RI wF vF (a + b) := by
            have h := hvF0
            rw [HZV.out, val_digs (by omega), val_digs (by omega)] at h
            have h1 := HM.out
            have h2 := HK.out
            have h3 : ¬ a < 0 := fun h => of_decide_eq_false HXA.out.symm (HX.out.2 h)
            have h4 :  b < 0 := HY.out.1 (of_decide_eq_true HXB.out.symm)
            have h6 := HLE.out
            have h5 : a + b = ((m - k : Nat) : Int) := by omega
            rw [h5]
            simpa using h
          clear hvF0
          have HRF := Lib.hid (HR5.out.up huF)
          have HVF := Lib.hid (fun x y u => hvF.put HRF.out x y u)
          obtain ⟨s3, g3, A3, n3, c3, rfl, -⟩ := hvF
          have HUFF := Lib.hid huF
          clear huF
          obtain ⟨r0, r1, r2, f0, f1, f2, lr⟩ := HRF.out.facts
          have HF := Lib.hid (HRF.out.stored (.int .i64 s3) (.bool g3) (.slice A3 n3 c3))
          have HUF := Lib.hid ((show Up w wF by (repeat (first | exact Below.refl _ _ | exact Hid.out (by assumption) | refine Up.trans ?_ (Up.drew _) | refine Up.trans ?_ (Up.drewN _ _) | refine Up.trans ?_ (Up.alloc _ _) | refine Up.trans ?_ (Hid.out (by assumption))))).put3 (show w.heap.size ≤ w.heap.size + 1 + 1 by omega) (.int .i64 s3) (.bool g3) (.slice A3 n3 c3))
          go_wp2
          obtain ⟨z0, z1, z2⟩ := HF.out
          refine bodyPost_ret (by simp [results, Tryz.results72, go_sem, z0, z1, z2]; try rfl) rfl ?_
          exact ⟨_, rfl, HVF.out _ _ _, HUF.out⟩
    · cases xb
      · rcases Int.lt_or_le cm 0 with hcm | hcm
        · have HLE : Hid (m ≤ k) := by
            have h := HCM.out
            unfold Hid
            omega
          go_wp2_with fail
          refine Calls.mono (HCMP.out _ _ _ HX1.out HX2.out) ?_
          rintro e w5 ⟨rfl, q, rfl⟩
          have HU5 := Lib.hid (Up.drewN w4 q)
          have HX1b := Lib.hid (Sl.drewN HX1.out q)
          have HX2b := Lib.hid (Sl.drewN HX2.out q)
          go_wp2_with fail
          refine Calls.mono (HDF2.out _ _ _ HX2b.out HX1b.out HLE.out) ?_
          rintro e w6 ⟨v6, zs, rfl, hown, hzok, hzv, -, hu6⟩
          have HU6 := Lib.hid hu6
          have HMD := Lib.hid (refMade_any false v6 zs w6 hown.sl hzok)
          have HZV := Lib.hid hzv
          have HR5 := Lib.hid ((HR4.out.drewN q).up hu6)
          clear hown hzok hzv hu6
          go_wp2_with fail
          refine Calls.mono HMD.out ?_
          rintro e wF ⟨vF, rfl, hvF0, huF⟩
          have hvF : RI wF vF (a + b) := by
            have h := hvF0
            rw [HZV.out, val_digs (by omega), val_digs (by omega)] at h
            have h1 := HM.out
            have h2 := HK.out
            have h3 :  a < 0 := HX.out.1 (of_decide_eq_true HXA.out.symm)
            have h4 : ¬ b < 0 := fun h => of_decide_eq_false HXB.out.symm (HY.out.2 h)
            have h6 := HLE.out
            have h5 : a + b = ((k - m : Nat) : Int) := by omega
            rw [h5]
            simpa using h
          clear hvF0
          have HRF := Lib.hid (HR5.out.up huF)
          have HVF := Lib.hid (fun x y u => hvF.put HRF.out x y u)
          obtain ⟨s3, g3, A3, n3, c3, rfl, -⟩ := hvF
          have HUFF := Lib.hid huF
          clear huF
          obtain ⟨r0, r1, r2, f0, f1, f2, lr⟩ := HRF.out.facts
          have HF := Lib.hid (HRF.out.stored (.int .i64 s3) (.bool g3) (.slice A3 n3 c3))
          have HUF := Lib.hid ((show Up w wF by (repeat (first | exact Below.refl _ _ | exact Hid.out (by assumption) | refine Up.trans ?_ (Up.drew _) | refine Up.trans ?_ (Up.drewN _ _) | refine Up.trans ?_ (Up.alloc _ _) | refine Up.trans ?_ (Hid.out (by assumption))))).put3 (show w.heap.size ≤ w.heap.size + 1 + 1 by omega) (.int .i64 s3) (.bool g3) (.slice A3 n3 c3))
          go_wp2
          obtain ⟨z0, z1, z2⟩ := HF.out
          refine bodyPost_ret (by simp [results, Tryz.results72, go_sem, z0, z1, z2]; try rfl) rfl ?_
          exact ⟨_, rfl, HVF.out _ _ _, HUF.out⟩
        · have HLE : Hid (k ≤ m) := by
            have h := HCM.out
            unfold Hid
            omega
          go_wp2_with fail
          refine Calls.mono (HCMP.out _ _ _ HX1.out HX2.out) ?_
          rintro e w5 ⟨rfl, q, rfl⟩
          have HU5 := Lib.hid (Up.drewN w4 q)
          have HX1b := Lib.hid (Sl.drewN HX1.out q)
          have HX2b := Lib.hid (Sl.drewN HX2.out q)
          go_wp2_with fail
          refine Calls.mono (HDF1.out _ _ _ HX1b.out HX2b.out HLE.out) ?_
          rintro e w6 ⟨v6, zs, rfl, hown, hzok, hzv, -, hu6⟩
          have HU6 := Lib.hid hu6
          have HMD := Lib.hid (refMade_any true v6 zs w6 hown.sl hzok)
          have HZV := Lib.hid hzv
          have HR5 := Lib.hid ((HR4.out.drewN q).up hu6)
          clear hown hzok hzv hu6
          go_wp2_with fail
          refine Calls.mono HMD.out ?_
          rintro e wF ⟨vF, rfl, hvF0, huF⟩
          have hvF : RI wF vF (a + b) := by
            have h := hvF0
            rw [HZV.out, val_digs (by omega), val_digs (by omega)] at h
            have h1 := HM.out
            have h2 := HK.out
            have h3 :  a < 0 := HX.out.1 (of_decide_eq_true HXA.out.symm)
            have h4 : ¬ b < 0 := fun h => of_decide_eq_false HXB.out.symm (HY.out.2 h)
            have h6 := HLE.out
            have h5 : a + b = -((m - k : Nat) : Int) := by omega
            rw [h5]
            simpa using h
          clear hvF0
          have HRF := Lib.hid (HR5.out.up huF)
          have HVF := Lib.hid (fun x y u => hvF.put HRF.out x y u)
          obtain ⟨s3, g3, A3, n3, c3, rfl, -⟩ := hvF
          have HUFF := Lib.hid huF
          clear huF
          obtain ⟨r0, r1, r2, f0, f1, f2, lr⟩ := HRF.out.facts
          have HF := Lib.hid (HRF.out.stored (.int .i64 s3) (.bool g3) (.slice A3 n3 c3))
          have HUF := Lib.hid ((show Up w wF by (repeat (first | exact Below.refl _ _ | exact Hid.out (by assumption) | refine Up.trans ?_ (Up.drew _) | refine Up.trans ?_ (Up.drewN _ _) | refine Up.trans ?_ (Up.alloc _ _) | refine Up.trans ?_ (Hid.out (by assumption))))).put3 (show w.heap.size ≤ w.heap.size + 1 + 1 by omega) (.int .i64 s3) (.bool g3) (.slice A3 n3 c3))
          go_wp2
          obtain ⟨z0, z1, z2⟩ := HF.out
          refine bodyPost_ret (by simp [results, Tryz.results72, go_sem, z0, z1, z2]; try rfl) rfl ?_
          exact ⟨_, rfl, HVF.out _ _ _, HUF.out⟩
      · go_wp2_with fail
        refine Calls.mono (HSUM.out _ _ _ HX1.out HX2.out) ?_
        rintro e w5 ⟨v5, zs, rfl, hsl, hzok, hzv, -, hu5⟩
        have HU5 := Lib.hid hu5
        have HMD := Lib.hid (refMade_any true v5 zs w5 hsl hzok)
        have HZV := Lib.hid hzv
        have HR5 := Lib.hid (HR4.out.up hu5)
        clear hsl hzok hzv hu5
        go_wp2_with fail
        refine Calls.mono HMD.out ?_
        rintro e wF ⟨vF, rfl, hvF0, huF⟩
        have hvF : RI wF vF (a + b) := by
          have h := hvF0
          rw [HZV.out, val_digs (by omega), val_digs (by omega)] at h
          have h1 := HM.out
          have h2 := HK.out
          have h3 :  a < 0 := HX.out.1 (of_decide_eq_true HXA.out.symm)
          have h4 :  b < 0 := HY.out.1 (of_decide_eq_true HXB.out.symm)
          have h5 : a + b = -((m + k : Nat) : Int) := by omega
          rw [h5]
          simpa using h
        clear hvF0
        have HRF := Lib.hid (HR5.out.up huF)
        have HVF := Lib.hid (fun x y u => hvF.put HRF.out x y u)
        obtain ⟨s3, g3, A3, n3, c3, rfl, -⟩ := hvF
        have HUFF := Lib.hid huF
        clear huF
        obtain ⟨r0, r1, r2, f0, f1, f2, lr⟩ := HRF.out.facts
        have HF := Lib.hid (HRF.out.stored (.int .i64 s3) (.bool g3) (.slice A3 n3 c3))
        have HUF := Lib.hid ((show Up w wF by (repeat (first | exact Below.refl _ _ | exact Hid.out (by assumption) | refine Up.trans ?_ (Up.drew _) | refine Up.trans ?_ (Up.drewN _ _) | refine Up.trans ?_ (Up.alloc _ _) | refine Up.trans ?_ (Hid.out (by assumption))))).put3 (show w.heap.size ≤ w.heap.size + 1 + 1 by omega) (.int .i64 s3) (.bool g3) (.slice A3 n3 c3))
        go_wp2
        obtain ⟨z0, z1, z2⟩ := HF.out
        refine bodyPost_ret (by simp [results, Tryz.results72, go_sem, z0, z1, z2]; try rfl) rfl ?_
        exact ⟨_, rfl, HVF.out _ _ _, HUF.out⟩
end Go.Proofs.YtacbjbnocepnaaaGreatDoor
namespace Go.Proofs.YtacbjbnocepnaaaGreatDoor
open Go.RowKit Fm
structure ScAt (ds zs : List Nat) (n k c : Nat) : Prop where
  len : zs.length = k
  ok : Ok 1073741824 zs
  car : c < 1073741824
  eq : val 1073741824 zs + 1073741824 ^ k * c = val 1073741824 (ds.take k) * n
  fin : k ≤ ds.length
theorem ScAt.next {ds zs : List Nat} {n k c : Nat} (h : ScAt ds zs n k c) (hk : k < ds.length) (hd : Ok 1073741824 ds) (hn : n < 1073741824) (s : Nat) (hs : s = c + ds[k] * n) :
    s ≤ 1152921504606846975 ∧ ScAt ds (zs ++ [s % 1073741824]) n (k + 1) (s / 1073741824) := by
  have h1 := hd.get hk
  have hc := h.car
  have hm : ds[k] * n ≤ 1073741823 * 1073741823 := Nat.mul_le_mul (by omega) (by omega)
  have hsb : s ≤ 1152921504606846975 := by omega
  refine ⟨hsb, by rw [List.length_append, h.len]; rfl, h.ok.append (Ok.cons (Nat.mod_lt _ (by omega)) Ok.nil), by omega, ?_, hk⟩
  rw [val_snoc, h.len, val_take_succ _ hk, Nat.add_mul]
  have h3 := h.eq
  have h4 := Nat.mod_add_div s 1073741824
  rw [Nat.pow_succ]
  generalize 1073741824 ^ k = p at *
  have e : p * s = p * (s % 1073741824) + p * 1073741824 * (s / 1073741824) := by
    rw [Nat.mul_assoc, ← Nat.mul_add, h4]
  rw [hs, Nat.mul_add] at e
  rw [← hs] at e
  rw [Nat.mul_assoc p, Nat.mul_assoc p]
  rw [Nat.mul_assoc p] at e
  omega
set_option maxHeartbeats 1000000 in
set_option maxRecDepth 10000 in
theorem refScaled_any (v : Value) (ds : List Nat) (n : Nat) (w : World) (h : Sl .i64 w v ds) (hd : Ok 1073741824 ds) (hn : n < 1073741824) (hl : ds.length ≤ 1073741824) :
    Calls Tryz.prog 143 #[v, .int .i64 n] w fun e w' => ∃ v' zs, e = .returned v' ∧ Ow w' w.heap.size v' zs ∧ Ok 1073741824 zs ∧ val 1073741824 zs = val 1073741824 ds * n ∧ zs.length = ds.length + 1 ∧ Up w w' := by
  obtain ⟨A, c, rfl, hc, hcm, hr⟩ := h
  go_enter Tryz.func143, Tryz.ntmps143
  go_wp2
  go_loopw [5, 6, 11] (fun v c i wr => ∃ (k q : Nat) (zs : List Nat), i = .int .i64 k ∧ c = .int .i64 q ∧ q < 1073741824 ∧ Hid (ScAt ds zs n k q) ∧ Ow wr w.heap.size v zs ∧ Up w wr) (fun _ _ i _ => ds.length - (intOf i).toNat)
  case atStart => exact ⟨0, 0, [], rfl, rfl, by omega, ⟨rfl, Ok.nil, by omega, by simp [val], by omega⟩, Ow.nil _ _, Up.refl _⟩
  case round =>
    obtain ⟨k, q, zs, rfl, rfl, hq, HS, hown, hup⟩ := hrel
    have hkm := HS.out.fin
    have hzl := HS.out.len
    have hrA := hr.up hup
    by_cases ha : k < ds.length
    · obtain ⟨b, off, rfl, hbb, hcell⟩ := hrA.at_ ha
      have hx := hd.get ha
      have hN := HS.out.next ha hd hn _ rfl
      obtain ⟨x, hxe⟩ : ∃ x, x = ds[k] := ⟨_, rfl⟩
      rw [← hxe] at hcell hx hN
      obtain ⟨pr, hpr⟩ : ∃ pr, pr = x * n := ⟨_, rfl⟩
      have hprI : (x : Int) * (n : Int) = (pr : Int) := by rw [hpr]; exact (Int.natCast_mul x n).symm
      rw [← hpr] at hN
      obtain ⟨hsb, hN2⟩ := hN
      have HN := Lib.hid hN2
      clear hN2 HS hxe hpr
      go_wp2_with (at_builtin; refine wpList_push w rfl (.tmp 20) (.tmp 23) rfl _ zs rfl (hown.up (Up.alloc _ _)) (hup.trans (Up.alloc _ _)) wr.heap.size rfl ((q + pr) % 1073741824) (cell_one _ _ _ (by omega)) (by omega) ?_; intro v' w' hown' hup')
      go_roundw
      case rel => exact ⟨k + 1, (q + pr) / 1073741824, _, by simp, by simp, by omega, HN, hown', hup'⟩
      case measure => simp [intOf]; omega
    · have HE : Hid (val 1073741824 (zs ++ [q]) = val 1073741824 ds * n) := by
        have h3 := HS.out.eq
        rw [List.take_of_length_le (by omega)] at h3
        unfold Hid
        rw [val_snoc, hzl]; exact h3
      have HOK := Lib.hid (HS.out.ok.append (Ok.cons hq Ok.nil))
      clear HS
      go_wp2_with (at_builtin; refine wpList_push w rfl (.tmp 28) (.tmp 30) rfl _ zs rfl (hown.up (Up.alloc _ _)) (hup.trans (Up.alloc _ _)) wr.heap.size rfl q (cell_one _ _ _ rfl) (by omega) ?_; intro v' w' hown' hup')
      go_ret
      exact ⟨_, _, rfl, hown', HOK.out, HE.out, by simp; omega, hup'⟩
end Go.Proofs.YtacbjbnocepnaaaGreatDoor

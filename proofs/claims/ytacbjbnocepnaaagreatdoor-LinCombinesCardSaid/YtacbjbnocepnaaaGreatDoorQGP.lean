/- Contracts of the reference implementation: its arithmetic of fractions. -/
import Derived.Test.YtacbjbnocepnaaaGreatDoorQGO
namespace Go.Proofs.YtacbjbnocepnaaaGreatDoor
open Go.RowKit Fm
theorem CellR.far3 {w : World} {g : Nat} {s s2 : Int} {b b2 : Bool} {v v2 : Value} (h : CellR w g s b v s2 b2 v2) {g' : Nat} (hne : g ≠ g') (x y z : Value) : CellR (put3 w g' x y z) g s b v s2 b2 v2 := by
  unfold CellR at *
  rw [Below.heap_setCell _ ⟨g', 2, none⟩ z g hne, Below.heap_setCell _ ⟨g', 1, none⟩ y g hne, Below.heap_setCell _ ⟨g', 0, none⟩ x g hne]
  exact h
def MkRel (w : World) (a b : Int) (wx : World) : Prop := ∃ (s s2 : Int) (g g2 : Bool) (A A2 : Option Addr) (n c n2 c2 : Nat),
  CellI wx w.heap.size s g (.slice A n c) ∧ RI wx (.agg #[.int .i64 s, .bool g, .slice A n c]) a ∧
  CellI wx (w.heap.size + 1) s2 g2 (.slice A2 n2 c2) ∧ RI wx (.agg #[.int .i64 s2, .bool g2, .slice A2 n2 c2]) b ∧
  CellR wx (w.heap.size + 1 + 1) 0 false (.slice none 0 0) 0 false (.slice none 0 0) ∧ Up w wx
theorem MkRel.up {w wx wy : World} {a b : Int} (h : MkRel w a b wx) (hu : Up wx wy) : MkRel w a b wy := by
  obtain ⟨s, s2, g, g2, A, A2, n, c, n2, c2, h1, h2, h3, h4, h5, h6⟩ := h
  exact ⟨s, s2, g, g2, A, A2, n, c, n2, c2, h1.up hu, h2.up hu, h3.up hu, h4.up hu, h5.up hu, h6.trans hu⟩
theorem MkRel.put1 {w wx : World} {a b a' : Int} (h : MkRel w a b wx) {s : Int} {g : Bool} {A : Option Addr} {n c : Nat} (hr : RI wx (.agg #[.int .i64 s, .bool g, .slice A n c]) a') : MkRel w a' b (put3 wx w.heap.size (.int .i64 s) (.bool g) (.slice A n c)) := by
  obtain ⟨s0, s2, g0, g2, A0, A2, n0, c0, n2, c2, h1, h2, h3, h4, h5, h6⟩ := h
  exact ⟨s, s2, g, g2, A, A2, n, c, n2, c2, h1.set _ _ _, hr.putI h1 _ _ _, h3.far (by omega) _ _ _, h4.putI h1 _ _ _, h5.far3 (by omega) _ _ _, h6.put3 (Nat.le_refl _) _ _ _⟩
theorem MkRel.put2 {w wx : World} {a b b' : Int} (h : MkRel w a b wx) {s : Int} {g : Bool} {A : Option Addr} {n c : Nat} (hr : RI wx (.agg #[.int .i64 s, .bool g, .slice A n c]) b') : MkRel w a b' (put3 wx (w.heap.size + 1) (.int .i64 s) (.bool g) (.slice A n c)) := by
  obtain ⟨s0, s2, g0, g2, A0, A2, n0, c0, n2, c2, h1, h2, h3, h4, h5, h6⟩ := h
  exact ⟨s0, s, g0, g, A0, A, n0, c0, n, c, h1.far (by omega) _ _ _, h2.putI h3 _ _ _, h3.set _ _ _, hr.putI h3 _ _ _, h5.far3 (by omega) _ _ _, h6.put3 (by omega) _ _ _⟩
set_option maxHeartbeats 2000000 in
set_option maxRecDepth 10000 in
theorem refMake_any (v1 v2 : Value) (a b : Int) (w : World) (h1 : RI w v1 a) (h2 : RI w v2 b) (hb0 : b ≠ 0) (ha : rl a ≤ 536870912) (hb : rl b ≤ 536870912) :
    Calls Tryz.prog 70 #[v1, v2] w fun e w' => ∃ v, e = .returned v ∧ RR w' v ((b.sign * a).tdiv (Int.gcd a b : Int)) ((b.sign * b).tdiv (Int.gcd a b : Int)) ∧ Up w w' := by
  have HS := Lib.hid (fun W (hu : Up w W) => refSign_any _ b W (h2.up hu))
  have HM1 := Lib.hid (fun W (hu : Up w W) => refMinus_any _ a W (h1.up hu))
  have HM2 := Lib.hid (fun W (hu : Up w W) => refMinus_any _ b W (h2.up hu))
  have H1 := Lib.hid h1
  have H2 := Lib.hid h2
  obtain ⟨s, g, A, n, c, rfl, -⟩ := h1
  obtain ⟨s2, g2, A2, n2, c2, rfl, -⟩ := h2
  have HL := Lib.hid (And.intro hb0 (And.intro ha hb))
  clear hb0 ha hb
  obtain ⟨sg, hsg⟩ : ∃ sg : Int, sg = b.sign := ⟨_, rfl⟩
  have HSG := Lib.hid hsg
  rw [← hsg] at HS ⊢
  clear hsg
  obtain ⟨G, hG⟩ : ∃ G : Int, G = (Int.gcd a b : Int) := ⟨_, rfl⟩
  have HG := Lib.hid hG
  rw [← hG]
  clear hG
  go_enter Tryz.func70, Tryz.ntmps70
  go_wp2_with fail
  obtain ⟨wB, hwB⟩ : ∃ wB, wB = ((w.alloc (.cells #[.int .i64 s, .bool g, .slice A n c] 48)).alloc (.cells #[.int .i64 s2, .bool g2, .slice A2 n2 c2] 48)).alloc (.cells #[.int .i64 0, .bool false, .slice none 0 0, .int .i64 0, .bool false, .slice none 0 0] 50) := ⟨_, rfl⟩
  have HU := Lib.hid (show Up w wB by rw [hwB]; exact ((Up.alloc _ _).trans (Up.alloc _ _)).trans (Up.alloc _ _))
  have HR := Lib.hid (show MkRel w a b wB by
    refine ⟨s, s2, g, g2, A, A2, n, c, n2, c2, ?_, H1.out.up HU.out, ?_, H2.out.up HU.out, ?_, HU.out⟩
    · rw [hwB]; exact ((CellI.new w s g _).up (Up.alloc _ _)).up (Up.alloc _ _)
    · rw [hwB]
      have := (CellI.new (w.alloc (.cells #[.int .i64 s, .bool g, .slice A n c] 48)) s2 g2 (.slice A2 n2 c2)).up (Up.alloc _ (.cells #[.int .i64 0, .bool false, .slice none 0 0, .int .i64 0, .bool false, .slice none 0 0] 50))
      simpa using this
    · rw [hwB]
      have := CellR.new ((w.alloc (.cells #[.int .i64 s, .bool g, .slice A n c] 48)).alloc (.cells #[.int .i64 s2, .bool g2, .slice A2 n2 c2] 48)) 0 false (.slice none 0 0) 0 false (.slice none 0 0)
      simpa using this)
  have HC := Lib.hid (show CellI wB w.heap.size s g (.slice A n c) ∧ CellI wB (w.heap.size + 1) s2 g2 (.slice A2 n2 c2) by
    rw [hwB]
    refine ⟨((CellI.new w s g _).up (Up.alloc _ _)).up (Up.alloc _ _), ?_⟩
    have := (CellI.new (w.alloc (.cells #[.int .i64 s, .bool g, .slice A n c] 48)) s2 g2 (.slice A2 n2 c2)).up (Up.alloc _ (.cells #[.int .i64 0, .bool false, .slice none 0 0, .int .i64 0, .bool false, .slice none 0 0] 50))
    simpa using this)
  rw [← hwB]
  clear hwB
  refine Calls.mono (HS.out _ (by (repeat (first | exact Below.refl _ _ | exact Hid.out (by assumption) | refine Up.trans ?_ (Up.drew _) | refine Up.trans ?_ (Up.drewN _ _) | refine Up.trans ?_ (Up.alloc _ _) | refine Up.trans ?_ (Hid.out (by assumption)))))) ?_
  rintro e w1 ⟨rfl, hu1⟩
  have HU1 := Lib.hid hu1
  clear hu1
  go_upto_if 8 with fail
  obtain ⟨a0, a1, a2, la⟩ := (HC.out.1.up HU1.out).facts
  obtain ⟨b0, b1, b2, lb⟩ := (HC.out.2.up HU1.out).facts
  go_cut [] (fun wx => MkRel w (sg * a) (sg * b) wx)
  case first =>
    by_cases hs : sg < 0
    · have hs1 : sg = -1 := by
        have h := HSG.out
        have := Int.sign_trichotomy b
        omega
      subst hs1
      go_upto_region 2 with fail
      go_region_with
        ((first
          | (go_at_call_of 105 (Value.agg #[.int .i64 s, .bool g, .slice A n c])
             refine Calls.mono (HM1.out _ (by (repeat (first | exact Below.refl _ _ | exact Hid.out (by assumption) | refine Up.trans ?_ (Up.drew _) | refine Up.trans ?_ (Up.drewN _ _) | refine Up.trans ?_ (Up.alloc _ _) | refine Up.trans ?_ (Hid.out (by assumption)))))) ?_
             rintro e w2 ⟨u2, rfl, hv2, hu2⟩
             have HU2 := Lib.hid hu2
             have HV2 := Lib.hid hv2
             obtain ⟨s3, g3, A3, n3, c3, rfl, -⟩ := hv2
             clear hu2
             obtain ⟨a0, a1, a2, la⟩ := (HC.out.1.up (w' := w2) (by (repeat (first | exact Below.refl _ _ | exact Hid.out (by assumption) | refine Up.trans ?_ (Up.drew _) | refine Up.trans ?_ (Up.drewN _ _) | refine Up.trans ?_ (Up.alloc _ _) | refine Up.trans ?_ (Hid.out (by assumption)))))).facts
             obtain ⟨b0, b1, b2, lb⟩ := (HC.out.2.up (w' := w2) (by (repeat (first | exact Below.refl _ _ | exact Hid.out (by assumption) | refine Up.trans ?_ (Up.drew _) | refine Up.trans ?_ (Up.drewN _ _) | refine Up.trans ?_ (Up.alloc _ _) | refine Up.trans ?_ (Hid.out (by assumption)))))).facts)
          | (go_at_call_of 105 (Value.agg #[.int .i64 s2, .bool g2, .slice A2 n2 c2])
             refine Calls.mono (HM2.out _ (by (repeat (first | exact Below.refl _ _ | exact Hid.out (by assumption) | refine Up.trans ?_ (Up.drew _) | refine Up.trans ?_ (Up.drewN _ _) | refine Up.trans ?_ (Up.alloc _ _) | refine Up.trans ?_ (Hid.out (by assumption)))))) ?_
             rintro e w3 ⟨u3, rfl, hv3, hu3⟩
             have HU3 := Lib.hid hu3
             have HV3 := Lib.hid hv3
             have HV2b := Lib.hid (HV2.out.up hu3)
             obtain ⟨s4, g4, A4, n4, c4, rfl, -⟩ := hv3
             clear hu3
             have HX := Lib.hid (HC.out.1.up (w' := w3) (by (repeat (first | exact Below.refl _ _ | exact Hid.out (by assumption) | refine Up.trans ?_ (Up.drew _) | refine Up.trans ?_ (Up.drewN _ _) | refine Up.trans ?_ (Up.alloc _ _) | refine Up.trans ?_ (Hid.out (by assumption))))))
             have HY := Lib.hid (HC.out.2.up (w' := w3) (by (repeat (first | exact Below.refl _ _ | exact Hid.out (by assumption) | refine Up.trans ?_ (Up.drew _) | refine Up.trans ?_ (Up.drewN _ _) | refine Up.trans ?_ (Up.alloc _ _) | refine Up.trans ?_ (Hid.out (by assumption))))))
             obtain ⟨a0, a1, a2, la⟩ := HX.out.facts
             obtain ⟨b0, b1, b2, lb⟩ := HY.out.facts
             have fa0 := HX.out.frozen 0
             have fa1 := HX.out.frozen 1
             have fa2 := HX.out.frozen 2
             have fb0 := HY.out.frozen 0
             have fb1 := HY.out.frozen 1
             have fb2 := HY.out.frozen 2)))
      all_goals
        have HF := Lib.hid (((HR.out.up (wy := w3) (by (repeat (first | exact Below.refl _ _ | exact Hid.out (by assumption) | refine Up.trans ?_ (Up.drew _) | refine Up.trans ?_ (Up.drewN _ _) | refine Up.trans ?_ (Up.alloc _ _) | refine Up.trans ?_ (Hid.out (by assumption)))))).put1 HV2b.out).put2 (HV3.out.putI HX.out (.int .i64 s3) (.bool g3) (.slice A3 n3 c3)))
        go_wp2_with fail
        go_meet
        have h := HF.out
        rw [show (-1 : Int) * a = -a by omega, show (-1 : Int) * b = -b by omega]
        exact h
    · have hs1 : sg = 1 := by
        have h := HSG.out
        have := Int.sign_trichotomy b
        have := HL.out.1
        have := Int.sign_eq_zero_iff_zero (a := b)
        omega
      subst hs1
      go_wp2_with fail
      go_meet
      rw [Int.one_mul, Int.one_mul]
      exact HR.out.up (by (repeat (first | exact Below.refl _ _ | exact Hid.out (by assumption) | refine Up.trans ?_ (Up.drew _) | refine Up.trans ?_ (Up.drewN _ _) | refine Up.trans ?_ (Up.alloc _ _) | refine Up.trans ?_ (Hid.out (by assumption)))))
  case rest =>
    obtain ⟨x, hx⟩ : ∃ x, x = sg * a := ⟨_, rfl⟩
    obtain ⟨y, hy⟩ : ∃ y, y = sg * b := ⟨_, rfl⟩
    have hsg : sg = 1 ∨ sg = -1 := by
      have h := HSG.out
      have := Int.sign_trichotomy b
      have := HL.out.1
      have := Int.sign_eq_zero_iff_zero (a := b)
      omega
    have HXY := Lib.hid (show y ≠ 0 ∧ rl x ≤ 536870912 ∧ rl y ≤ 536870912 ∧ G = (Int.gcd x y : Int) by
      obtain ⟨h1, h2, h3⟩ := HL.out
      rw [hx, hy, HG.out]
      rcases hsg with rfl | rfl
      · rw [Int.one_mul, Int.one_mul]; exact ⟨h1, h2, h3, rfl⟩
      · rw [show (-1 : Int) * a = -a by omega, show (-1 : Int) * b = -b by omega]
        refine ⟨by omega, ?_, ?_, by rw [Int.gcd_neg, Int.neg_gcd]⟩
        · unfold rl at *; rw [Int.natAbs_neg]; exact h2
        · unfold rl at *; rw [Int.natAbs_neg]; exact h3)
    have HPOST := Lib.hid (And.intro hx hy)
    rw [← hx, ← hy] at hcut
    clear hx hy hsg a0 a1 a2 la b0 b1 b2 lb HL HM1 HM2 HS HR HC HU1 H1 H2 HSG HU HG
    have HMK := Lib.hid hcut
    obtain ⟨t, t2, k, k2, B, B2, m, d, m2, d2, hc1, hr1, hc2, hr2, -, -⟩ := hcut
    have HC1 := Lib.hid hc1
    have HC2 := Lib.hid hc2
    have HV1 := Lib.hid hr1
    have HV2 := Lib.hid hr2
    obtain ⟨a0, a1, a2, la⟩ := hc1.facts
    obtain ⟨b0, b1, b2, lb⟩ := hc2.facts
    clear hc1 hc2 hr1 hr2
    go_wp2_with fail
    refine Calls.mono (refGcd_any _ _ x y _ HV1.out HV2.out HXY.out.2.1 HXY.out.2.2.1) ?_
    rintro e w2 ⟨v3, rfl, hv3, hu3⟩
    have HU3 := Lib.hid hu3
    have HV3 := Lib.hid hv3
    obtain ⟨s3, g3, A3, n3, c3, rfl, -⟩ := hv3
    clear hu3 a0 a1 a2 la b0 b1 b2 lb
    go_upto_region 4 with fail
    obtain ⟨wD, hwD⟩ : ∃ wD, wD = w2.alloc (.cells #[.int .i64 s3, .bool g3, .slice A3 n3 c3] 48) := ⟨_, rfl⟩
    have HCD := Lib.hid (show CellI wD w2.heap.size s3 g3 (.slice A3 n3 c3) by rw [hwD]; exact CellI.new _ _ _ _)
    have HUD := Lib.hid (show Up w2 wD by rw [hwD]; exact Up.alloc _ _)
    have HLT := Lib.hid (HMK.out.up HU3.out)
    rw [← hwD]
    clear hwD
    obtain ⟨d0, d1, d2', ld⟩ := HCD.out.facts
    have HGP := Lib.hid (show 1 ≤ G ∧ rl G ≤ 536870912 by
      obtain ⟨h1, h2, h3, h4⟩ := HXY.out
      have h5 : 0 < Int.gcd x y := Int.gcd_pos_of_ne_zero_right x h1
      refine ⟨by omega, Nat.le_trans (digs_len_le ?_) h3⟩
      rw [h4, Int.natAbs_natCast]
      exact Nat.le_of_dvd (by omega) (Int.gcd_dvd_natAbs_right x y))
    obtain ⟨cs, hcs⟩ : ∃ cs : Int, cs = (G - 1).sign := ⟨_, rfl⟩
    have HCM : Hid (∀ (W : World) (u : Value), RI W (.agg #[.int .i64 s3, .bool g3, .slice A3 n3 c3]) G → RI W u 1 → Calls Tryz.prog 108 #[.agg #[.int .i64 s3, .bool g3, .slice A3 n3 c3], u] W fun e w' => e = .returned (.int .i64 cs) ∧ Up W w') :=
      Lib.hid (fun W u h1 h2 => by rw [hcs]; exact refCompare_any _ u G 1 W h1 h2 HGP.out.2 (Nat.le_trans (rl_int (by omega) (by omega)) (by omega)))
    have HO := Lib.hid (fun W => refOf_any 1 W (by omega) (by omega))
    have HV3c : Hid (RI wD (.agg #[.int .i64 s3, .bool g3, .slice A3 n3 c3]) G) := Lib.hid (by rw [HXY.out.2.2.2]; exact HV3.out.up HUD.out)
    have HMD := Lib.hid (HLT.out.up HUD.out)
    have hlt : w.heap.size + 1 < w2.heap.size := by
      obtain ⟨t5, t6, k5, k6, B5, B6, m5, d5, m6, d6, hc1, hr1, hc2, -⟩ := HLT.out
      exact hc2.lt
    have HLW := Lib.hid hlt
    clear hlt
    by_cases hG1 : G = 1
    · have hcs0 : cs = 0 := by rw [hcs, hG1]; rfl
      subst hcs0
      have HG1 := Lib.hid hG1
      clear hcs hG1
      go_region_held3 (fun w' => w'.cell? ⟨w2.heap.size, 0, none⟩ = some (.int .i64 s3) ∧ w'.cell? ⟨w2.heap.size, 1, none⟩ = some (.bool g3) ∧ w'.cell? ⟨w2.heap.size, 2, none⟩ = some (.slice A3 n3 c3)) (go_keep)
        ((first
          | (go_at_call_of 69 (Value.int IntKind.i64 1)
             refine Calls.mono (HO.out _) ?_
             rintro e w4 ⟨u4, rfl, hv4, hu4⟩
             have HU4 := Lib.hid hu4
             have HV4 := Lib.hid hv4
             clear hv4 hu4
             obtain ⟨d0, d1, d2', ld⟩ := (HCD.out.up (w' := w4) (by (repeat (first | exact Below.refl _ _ | exact Hid.out (by assumption) | refine Up.trans ?_ (Up.drew _) | refine Up.trans ?_ (Up.drewN _ _) | refine Up.trans ?_ (Up.alloc _ _) | refine Up.trans ?_ (Hid.out (by assumption)))))).facts)
          | (go_at_call 108
             refine Calls.mono (HCM.out _ _ (HV3c.out.up (by (repeat (first | exact Below.refl _ _ | exact Hid.out (by assumption) | refine Up.trans ?_ (Up.drew _) | refine Up.trans ?_ (Up.drewN _ _) | refine Up.trans ?_ (Up.alloc _ _) | refine Up.trans ?_ (Hid.out (by assumption)))))) HV4.out) ?_
             rintro e w5 ⟨rfl, hu5⟩
             have HU5 := Lib.hid hu5
             clear hu5
             obtain ⟨d0, d1, d2', ld⟩ := (HCD.out.up (w' := w5) (by (repeat (first | exact Below.refl _ _ | exact Hid.out (by assumption) | refine Up.trans ?_ (Up.drew _) | refine Up.trans ?_ (Up.drewN _ _) | refine Up.trans ?_ (Up.alloc _ _) | refine Up.trans ?_ (Hid.out (by assumption)))))).facts)))
      have HME := Lib.hid (HMD.out.up (wy := w5) (by (repeat (first | exact Below.refl _ _ | exact Hid.out (by assumption) | refine Up.trans ?_ (Up.drew _) | refine Up.trans ?_ (Up.drewN _ _) | refine Up.trans ?_ (Up.alloc _ _) | refine Up.trans ?_ (Hid.out (by assumption))))))
      obtain ⟨t5, t6, k5, k6, B5, B6, m5, d5, m6, d6, hc1, hr1, hc2, hr2, hrr, huu⟩ := HME.out
      have HF := Lib.hid (hrr.set t5 k5 (.slice B5 m5 d5) t6 k6 (.slice B6 m6 d6))
      have HP := Lib.hid (hr1.put6 hrr (.int .i64 t5) (.bool k5) (.slice B5 m5 d5) (.int .i64 t6) (.bool k6) (.slice B6 m6 d6))
      have HQ := Lib.hid (hr2.put6 hrr (.int .i64 t5) (.bool k5) (.slice B5 m5 d5) (.int .i64 t6) (.bool k6) (.slice B6 m6 d6))
      have HUF := Lib.hid (huu.put6 (show w.heap.size ≤ w.heap.size + 1 + 1 by omega) (.int .i64 t5) (.bool k5) (.slice B5 m5 d5) (.int .i64 t6) (.bool k6) (.slice B6 m6 d6))
      obtain ⟨a0, a1, a2, la⟩ := hc1.facts
      obtain ⟨b0, b1, b2, lb⟩ := hc2.facts
      obtain ⟨r0, r1, r2, r3, r4, r5, lr⟩ := hrr.facts
      have f0 := hrr.frozen 0
      have f1 := hrr.frozen 1
      have f2 := hrr.frozen 2
      have f3 := hrr.frozen 3
      have f4 := hrr.frozen 4
      have f5 := hrr.frozen 5
      clear hc1 hr1 hc2 hr2 hrr huu
      go_wp2
      obtain ⟨z0, z1, z2, z3, z4, z5, -⟩ := HF.out.facts
      refine bodyPost_ret (by simp [results, Tryz.results70, go_sem, z0, z1, z2, z3, z4, z5]; try rfl) rfl ?_
      rw [← HPOST.out.1, ← HPOST.out.2]
      rw [HG1.out, Int.tdiv_one, Int.tdiv_one]
      exact ⟨_, rfl, ⟨t5, t6, k5, k6, B5, B6, m5, d5, m6, d6, rfl, HP.out, HQ.out⟩, HUF.out⟩
    · have hcs0 : ¬ cs = 0 := by rw [hcs]; exact fun h => hG1 (by have := Int.sign_eq_zero_iff_zero.1 h; omega)
      clear hcs hG1
      go_region_held3 (fun w' => w'.cell? ⟨w2.heap.size, 0, none⟩ = some (.int .i64 s3) ∧ w'.cell? ⟨w2.heap.size, 1, none⟩ = some (.bool g3) ∧ w'.cell? ⟨w2.heap.size, 2, none⟩ = some (.slice A3 n3 c3)) (go_keep)
        ((first
          | (go_at_call_of 69 (Value.int IntKind.i64 1)
             refine Calls.mono (HO.out _) ?_
             rintro e w4 ⟨u4, rfl, hv4, hu4⟩
             have HU4 := Lib.hid hu4
             have HV4 := Lib.hid hv4
             clear hv4 hu4
             obtain ⟨d0, d1, d2', ld⟩ := (HCD.out.up (w' := w4) (by (repeat (first | exact Below.refl _ _ | exact Hid.out (by assumption) | refine Up.trans ?_ (Up.drew _) | refine Up.trans ?_ (Up.drewN _ _) | refine Up.trans ?_ (Up.alloc _ _) | refine Up.trans ?_ (Hid.out (by assumption)))))).facts)
          | (go_at_call 108
             refine Calls.mono (HCM.out _ _ (HV3c.out.up (by (repeat (first | exact Below.refl _ _ | exact Hid.out (by assumption) | refine Up.trans ?_ (Up.drew _) | refine Up.trans ?_ (Up.drewN _ _) | refine Up.trans ?_ (Up.alloc _ _) | refine Up.trans ?_ (Hid.out (by assumption)))))) HV4.out) ?_
             rintro e w5 ⟨rfl, hu5⟩
             have HU5 := Lib.hid hu5
             clear hu5
             obtain ⟨d0, d1, d2', ld⟩ := (HCD.out.up (w' := w5) (by (repeat (first | exact Below.refl _ _ | exact Hid.out (by assumption) | refine Up.trans ?_ (Up.drew _) | refine Up.trans ?_ (Up.drewN _ _) | refine Up.trans ?_ (Up.alloc _ _) | refine Up.trans ?_ (Hid.out (by assumption)))))).facts)))
      obtain ⟨t5, t6, k5, k6, B5, B6, m5, d5, m6, d6, hc1, hr1, hc2, hr2, -, -⟩ := HMD.out.up (wy := w5) (by (repeat (first | exact Below.refl _ _ | exact Hid.out (by assumption) | refine Up.trans ?_ (Up.drew _) | refine Up.trans ?_ (Up.drewN _ _) | refine Up.trans ?_ (Up.alloc _ _) | refine Up.trans ?_ (Hid.out (by assumption)))))
      have HR1 := Lib.hid hr1
      obtain ⟨a0, a1, a2, la⟩ := hc1.facts
      clear hc1 hr1 hc2 hr2
      go_wp2_with fail
      refine Calls.mono (refOver_any _ _ x G w5 HR1.out (HV3c.out.up (by (repeat (first | exact Below.refl _ _ | exact Hid.out (by assumption) | refine Up.trans ?_ (Up.drew _) | refine Up.trans ?_ (Up.drewN _ _) | refine Up.trans ?_ (Up.alloc _ _) | refine Up.trans ?_ (Hid.out (by assumption)))))) (by have := HGP.out.1; omega) HXY.out.2.1) ?_
      rintro e w6 ⟨q, r, rfl, hq, hr, hu6⟩
      have HU6 := Lib.hid hu6
      have HVQ := Lib.hid hq
      obtain ⟨sq, gq, Aq, nq, cq, rfl, -⟩ := hq
      obtain ⟨sr, gr, Ar, nr, cr, rfl, -⟩ := hr
      clear hu6 a0 a1 a2 la d0 d1 d2' ld
      obtain ⟨t7, t8, k7, k8, B7, B8, m7, d7, m8, d8, hc1, -⟩ := HMD.out.up (wy := w6) (by (repeat (first | exact Below.refl _ _ | exact Hid.out (by assumption) | refine Up.trans ?_ (Up.drew _) | refine Up.trans ?_ (Up.drewN _ _) | refine Up.trans ?_ (Up.alloc _ _) | refine Up.trans ?_ (Hid.out (by assumption)))))
      obtain ⟨a0, a1, a2, la⟩ := hc1.facts
      have fa0 := hc1.frozen 0
      have fa1 := hc1.frozen 1
      have fa2 := hc1.frozen 2
      have HK := Lib.hid hc1
      clear hc1
      go_upto_region 6 with fail
      obtain ⟨wE, hwE⟩ : ∃ wE, wE = ((w6.setCell ⟨w.heap.size, 0, none⟩ (.int .i64 sq)).setCell ⟨w.heap.size, 1, none⟩ (.bool gq)).setCell ⟨w.heap.size, 2, none⟩ (.slice Aq nq cq) := ⟨_, rfl⟩
      have HME := Lib.hid (show MkRel w (x.tdiv G) y wE by rw [hwE]; exact (HMD.out.up (wy := w6) (by (repeat (first | exact Below.refl _ _ | exact Hid.out (by assumption) | refine Up.trans ?_ (Up.drew _) | refine Up.trans ?_ (Up.drewN _ _) | refine Up.trans ?_ (Up.alloc _ _) | refine Up.trans ?_ (Hid.out (by assumption)))))).put1 HVQ.out)
      have HCE := Lib.hid (show CellI wE w2.heap.size s3 g3 (.slice A3 n3 c3) by rw [hwE]; exact (HCD.out.up (w' := w6) (by (repeat (first | exact Below.refl _ _ | exact Hid.out (by assumption) | refine Up.trans ?_ (Up.drew _) | refine Up.trans ?_ (Up.drewN _ _) | refine Up.trans ?_ (Up.alloc _ _) | refine Up.trans ?_ (Hid.out (by assumption)))))).far (by have := HLW.out; omega) _ _ _)
      have HGE := Lib.hid (show RI wE (.agg #[.int .i64 s3, .bool g3, .slice A3 n3 c3]) G by rw [hwE]; exact (HV3c.out.up (w' := w6) (by (repeat (first | exact Below.refl _ _ | exact Hid.out (by assumption) | refine Up.trans ?_ (Up.drew _) | refine Up.trans ?_ (Up.drewN _ _) | refine Up.trans ?_ (Up.alloc _ _) | refine Up.trans ?_ (Hid.out (by assumption)))))).putI HK.out _ _ _)
      rw [← hwE]
      clear hwE a0 a1 a2 la fa0 fa1 fa2
      obtain ⟨t9, t0, k9, k0, B9, B0, m9, d9, m0, d0, -, -, hc2, hr2, -, -⟩ := HME.out
      have HR2 := Lib.hid hr2
      obtain ⟨b0, b1, b2, lb⟩ := hc2.facts
      obtain ⟨e0, e1, e2, le⟩ := HCE.out.facts
      clear hc2 hr2
      go_wp2_with fail
      refine Calls.mono (refOver_any _ _ y G wE HR2.out HGE.out (by have := HGP.out.1; omega) HXY.out.2.2.1) ?_
      rintro e w7 ⟨q, r, rfl, hq, hr, hu7⟩
      have HU7 := Lib.hid hu7
      have HVP := Lib.hid hq
      obtain ⟨sp, gp, Ap, np, cp, rfl, -⟩ := hq
      obtain ⟨sv, gv, Av, nv, cv, rfl, -⟩ := hr
      clear hu7 b0 b1 b2 lb e0 e1 e2 le
      obtain ⟨u7, u8, i7, i8, C7, C8, o7, f7, o8, f8, -, -, hc2, -⟩ := HME.out.up (wy := w7) HU7.out
      obtain ⟨b0, b1, b2, lb⟩ := hc2.facts
      have fb0 := hc2.frozen 0
      have fb1 := hc2.frozen 1
      have fb2 := hc2.frozen 2
      clear hc2
      go_upto_region 7 with fail
      obtain ⟨wF, hwF⟩ : ∃ wF, wF = ((w7.setCell ⟨w.heap.size + 1, 0, none⟩ (.int .i64 sp)).setCell ⟨w.heap.size + 1, 1, none⟩ (.bool gp)).setCell ⟨w.heap.size + 1, 2, none⟩ (.slice Ap np cp) := ⟨_, rfl⟩
      have HMF := Lib.hid (show MkRel w (x.tdiv G) (y.tdiv G) wF by rw [hwF]; exact (HME.out.up (wy := w7) HU7.out).put2 HVP.out)
      rw [← hwF]
      clear hwF b0 b1 b2 lb fb0 fb1 fb2
      obtain ⟨t5, t6, k5, k6, B5, B6, m5, d5, m6, d6, hc1, hr1, hc2, hr2, hrr, huu⟩ := HMF.out
      have HF := Lib.hid (hrr.set t5 k5 (.slice B5 m5 d5) t6 k6 (.slice B6 m6 d6))
      have HP := Lib.hid (hr1.put6 hrr (.int .i64 t5) (.bool k5) (.slice B5 m5 d5) (.int .i64 t6) (.bool k6) (.slice B6 m6 d6))
      have HQ := Lib.hid (hr2.put6 hrr (.int .i64 t5) (.bool k5) (.slice B5 m5 d5) (.int .i64 t6) (.bool k6) (.slice B6 m6 d6))
      have HUF := Lib.hid (huu.put6 (show w.heap.size ≤ w.heap.size + 1 + 1 by omega) (.int .i64 t5) (.bool k5) (.slice B5 m5 d5) (.int .i64 t6) (.bool k6) (.slice B6 m6 d6))
      obtain ⟨a0, a1, a2, la⟩ := hc1.facts
      obtain ⟨b0, b1, b2, lb⟩ := hc2.facts
      obtain ⟨r0, r1, r2, r3, r4, r5, lr⟩ := hrr.facts
      have f0 := hrr.frozen 0
      have f1 := hrr.frozen 1
      have f2 := hrr.frozen 2
      have f3 := hrr.frozen 3
      have f4 := hrr.frozen 4
      have f5 := hrr.frozen 5
      clear hc1 hr1 hc2 hr2 hrr huu
      go_wp2
      obtain ⟨z0, z1, z2, z3, z4, z5, -⟩ := HF.out.facts
      refine bodyPost_ret (by simp [results, Tryz.results70, go_sem, z0, z1, z2, z3, z4, z5]; try rfl) rfl ?_
      rw [← HPOST.out.1, ← HPOST.out.2]
      exact ⟨_, rfl, ⟨t5, t6, k5, k6, B5, B6, m5, d5, m6, d6, rfl, HP.out, HQ.out⟩, HUF.out⟩
end Go.Proofs.YtacbjbnocepnaaaGreatDoor
namespace Go.Proofs.YtacbjbnocepnaaaGreatDoor
open Go.RowKit Fm
def Made (w : World) (v : Value) (a b : Int) : Prop := RR w v ((b.sign * a).tdiv (Int.gcd a b : Int)) ((b.sign * b).tdiv (Int.gcd a b : Int))
end Go.Proofs.YtacbjbnocepnaaaGreatDoor
namespace Go.Proofs.YtacbjbnocepnaaaGreatDoor
open Go.RowKit Fm
end Go.Proofs.YtacbjbnocepnaaaGreatDoor
namespace Go.Proofs.YtacbjbnocepnaaaGreatDoor
open Go.RowKit Fm
end Go.Proofs.YtacbjbnocepnaaaGreatDoor
namespace Go.Proofs.YtacbjbnocepnaaaGreatDoor
open Go.RowKit Fm
set_option maxHeartbeats 2000000 in
set_option maxRecDepth 10000 in
theorem refWhole_any (x : Int) (w : World) (hx1 : -9223372036854775808 ≤ x) (hx2 : x ≤ 9223372036854775807) :
    Calls Tryz.prog 24 #[.int .i64 x] w fun e w' => ∃ v, e = .returned v ∧ RR w' v x 1 ∧ Up w w' := by
  have HO1 := Lib.hid (fun W => refOf_any x W hx1 hx2)
  have HO2 := Lib.hid (fun W => refOf_any 1 W (by omega) (by omega))
  clear hx1 hx2
  go_enter Tryz.func24, Tryz.ntmps24
  go_wp2_with fail
  obtain ⟨wB, hwB⟩ : ∃ wB, wB = w.alloc (.cells #[.int .i64 0, .bool false, .slice none 0 0, .int .i64 0, .bool false, .slice none 0 0] 50) := ⟨_, rfl⟩
  have HR := Lib.hid (show CellR wB w.heap.size 0 false (.slice none 0 0) 0 false (.slice none 0 0) by rw [hwB]; exact CellR.new _ _ _ _ _ _ _)
  have HU := Lib.hid (show Up w wB by rw [hwB]; exact Up.alloc _ _)
  rw [← hwB]
  clear hwB
  refine Calls.mono (HO1.out _) ?_
  rintro e w1 ⟨u1, rfl, hv1, hu1⟩
  have HU1 := Lib.hid hu1
  have HV1 := Lib.hid hv1
  obtain ⟨s1, g1, A1, n1, c1, rfl, -⟩ := hv1
  clear hu1
  go_wp2_with fail
  refine Calls.mono (HO2.out _) ?_
  rintro e w2 ⟨u2, rfl, hv2, hu2⟩
  have HU2 := Lib.hid hu2
  have HV2 := Lib.hid hv2
  have HV1b := Lib.hid (HV1.out.up hu2)
  obtain ⟨s2, g2, A2, n2, c2, rfl, -⟩ := hv2
  clear hu2
  have HX := Lib.hid (HR.out.up (w' := w2) (by (repeat (first | exact Below.refl _ _ | exact Hid.out (by assumption) | refine Up.trans ?_ (Up.drew _) | refine Up.trans ?_ (Up.drewN _ _) | refine Up.trans ?_ (Up.alloc _ _) | refine Up.trans ?_ (Hid.out (by assumption))))))
  obtain ⟨r0, r1, r2, r3, r4, r5, lr⟩ := HX.out.facts
  have f0 := HX.out.frozen 0
  have f1 := HX.out.frozen 1
  have f2 := HX.out.frozen 2
  have f3 := HX.out.frozen 3
  have f4 := HX.out.frozen 4
  have f5 := HX.out.frozen 5
  have HF := Lib.hid (HX.out.set s1 g1 (.slice A1 n1 c1) s2 g2 (.slice A2 n2 c2))
  have HP := Lib.hid (HV1b.out.put6 HX.out (.int .i64 s1) (.bool g1) (.slice A1 n1 c1) (.int .i64 s2) (.bool g2) (.slice A2 n2 c2))
  have HQ := Lib.hid (HV2.out.put6 HX.out (.int .i64 s1) (.bool g1) (.slice A1 n1 c1) (.int .i64 s2) (.bool g2) (.slice A2 n2 c2))
  have HUF := Lib.hid ((show Up w w2 by (repeat (first | exact Below.refl _ _ | exact Hid.out (by assumption) | refine Up.trans ?_ (Up.drew _) | refine Up.trans ?_ (Up.drewN _ _) | refine Up.trans ?_ (Up.alloc _ _) | refine Up.trans ?_ (Hid.out (by assumption))))).put6 (show w.heap.size ≤ w.heap.size by omega) (.int .i64 s1) (.bool g1) (.slice A1 n1 c1) (.int .i64 s2) (.bool g2) (.slice A2 n2 c2))
  go_wp2
  obtain ⟨z0, z1, z2, z3, z4, z5, -⟩ := HF.out.facts
  refine bodyPost_ret (by simp [results, Tryz.results24, go_sem, z0, z1, z2, z3, z4, z5]; try rfl) rfl ?_
  exact ⟨_, rfl, ⟨s1, s2, g1, g2, A1, A2, n1, c1, n2, c2, rfl, HP.out, HQ.out⟩, HUF.out⟩
end Go.Proofs.YtacbjbnocepnaaaGreatDoor

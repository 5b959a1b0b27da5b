/- Walks of a law. -/
import Derived.Test.YtgcmogldiahdpaaGreatDoorGTxt10
import Derived.Deep.RegionWith
import Derived.Deep.CutBlock
namespace Go.Proofs.YtgcmogldiahdpaaGreatDoor
open Go.RowKit Fm
theorem CellN.far3 {w : World} {g g' : Nat} {x y : Int} (h : CellN w g x y) (hne : g ≠ g') (u v z : Value) : CellN (put3 w g' u v z) g x y := by
  unfold CellN at *
  rw [Below.heap_setCell _ ⟨g', 2, none⟩ z g hne, Below.heap_setCell _ ⟨g', 1, none⟩ v g hne, Below.heap_setCell _ ⟨g', 0, none⟩ u g hne]
  exact h
set_option maxHeartbeats 4000000 in
set_option maxRecDepth 10000 in
theorem refParse_neg (t : List UInt8) (w : World) (hl : t.length ≤ 399) :
    Calls Tryz.prog 15 #[.string ⟨(45 :: t).toArray⟩] w fun e w' => e = .returned (.tuple #[.agg #[.int .i64 (parseOut (45 :: t)).1, .int .i64 (parseOut (45 :: t)).2.1], .int .i64 (parseOut (45 :: t)).2.2]) ∧ Up w w' := by
  have HE : Hid ((ByteArray.mk (45 :: t).toArray).extract 1 (t.length + 1) = ByteArray.mk t.toArray) := Lib.hid (by simpa using str_drop (45 :: t) 1)
  have hlen : (t.length : Int) ≤ 399 := by omega
  have h0 : (ByteArray.mk (45 :: t).toArray)[0]'(by show 0 < (45 :: t).toArray.size; simp) = 45 := rfl
  have HR := Lib.hid (CellN.new w 0 0)
  have HU := Lib.hid (Up.alloc w (.cells #[.int .i64 0, .int .i64 0] 23))
  go_enter Tryz.func15, Tryz.ntmps15
  go_upto_block 0 with fail
  rw [HE.out]
  generalize w.alloc (.cells #[.int .i64 0, .int .i64 0] 23) = wB at *
  clear HE h0
  go_cut [4, 6] (fun s4 s6 wx => s4 = .string ⟨(topOf t).toArray⟩ ∧ s6 = .string ⟨(lowOf t).toArray⟩ ∧ Up wB wx)
  case first =>
    go_step
    go_loopw [4, 6, 7] (fun s4 s6 i wr => s4 = .string ⟨t.toArray⟩ ∧ s6 = .string ⟨#[49]⟩ ∧ ∃ k : Nat, k ≤ t.length ∧ i = .int .i64 k ∧ Hid ((t.take k).all notSl = true) ∧ Hid (Up wB wr)) (fun _ _ i _ => t.length - (intOf i).toNat)
    case atStart => exact ⟨rfl, rfl, 0, by omega, rfl, Lib.hid rfl, Lib.hid (Up.refl _)⟩
    case round =>
      obtain ⟨rfl, rfl, k, hk, rfl, HAL, HUP⟩ := hrel
      by_cases hkl : k < t.length
      · by_cases hx : t[k] = 47
        · obtain ⟨e1, e2⟩ := hasLow_take t k hkl HAL.out hx
          have hbx : (ByteArray.mk t.toArray)[k]'(by show k < t.toArray.size; simpa using hkl) = 47 := hx
          have i0 : (0 : Int) ≤ (k : Int) := by omega
          have i1 : (k : Int) < (t.length : Int) := by omega
          have i2 : ¬ ((t.length : Int) < (k : Int)) := by omega
          have i3 : ¬ ((t.length : Int) < (k : Int) + 1) := by omega
          have i4 : (k : Int) + 1 ≤ (t.length : Int) := by omega
          have i5 : (0 : Int) ≤ (k : Int) + 1 := by omega
          have i6 : (k : Int) ≤ (t.length : Int) := by omega
          have i7 : IntKind.i64.wrap ((k : Int) + 1) = (k : Int) + 1 := IntWalk.i64_in _ (by omega)
          have HT1 : Hid ((ByteArray.mk t.toArray).extract 0 k = ByteArray.mk (topOf t).toArray) := Lib.hid (by
            rw [e1]; apply ByteArray.ext; simp)
          have HT2 : Hid ((ByteArray.mk t.toArray).extract (k + 1) t.length = ByteArray.mk (lowOf t).toArray) := Lib.hid (by rw [e2]; exact str_drop t (k + 1))
          go_upto_region 10 with fail
          go_region_with (fail)
          all_goals
            go_wp2
            go_meet
            exact ⟨by rw [← HT1.out], by rw [← HT2.out], by (repeat (first | exact Below.refl _ _ | exact Go.RowKit.Hid.out (by assumption) | refine Up.trans ?_ (Up.drew _) | refine Up.trans ?_ (Up.drewN _ _) | refine Up.trans ?_ (Up.alloc _ _) | refine Up.trans ?_ (Go.RowKit.Hid.out (by assumption))))⟩
        · have HN := Lib.hid (notSl_next t k hkl HAL.out hx)
          have hbx : (((ByteArray.mk t.toArray)[k]'(by show k < t.toArray.size; simpa using hkl)).toNat : Int) ≠ 47 := by
            intro e
            refine hx ?_
            show (ByteArray.mk t.toArray)[k]'(by show k < t.toArray.size; simpa using hkl) = 47
            exact UInt8.toNat_inj.1 (by show _ = 47; omega)
          have i0 : (0 : Int) ≤ (k : Int) := by omega
          have i1 : (k : Int) < (t.length : Int) := by omega
          go_wp2
          exact ⟨⟨rfl, rfl, k + 1, hkl, by simp, HN, HUP⟩, by simp [intOf]; omega⟩
      · have hke : k = t.length := by omega
        subst hke
        have hh : hasLow t = false := by unfold hasLow; rw [List.take_length] at HAL; rw [HAL.out]; rfl
        go_wp2
        go_meet
        exact ⟨by rw [top_all _ hh], by unfold lowOf; rw [hh]; rfl, HUP.out⟩
  case rest =>
    obtain ⟨rfl, rfl, hu⟩ := hcut
    have HUC := Lib.hid hu
    clear hu
    have ltop : (topOf t).length ≤ 400 := Nat.le_trans (top_le t) (by omega)
    have llow : (lowOf t).length ≤ 400 := low_le t (by omega)
    have HL1 := Lib.hid (fun W => refLong_any (topOf t) W ltop)
    have HL2 := Lib.hid (fun W => refLong_any (lowOf t) W llow)
    clear ltop llow
    go_wp2_with fail
    refine Calls.mono (HL1.out _) ?_
    rintro e w1 ⟨v1, rfl, hv1, hu⟩
    have HV1 := Lib.hid hv1
    have HU1 := Lib.hid hu
    obtain ⟨z1, ⟨s1, g1, A1, n1, c1, rfl, -⟩, -⟩ := hv1
    clear hu
    go_wp2_with fail
    refine Calls.mono (HL2.out _) ?_
    rintro e w2 ⟨v2, rfl, hv2, hu⟩
    have HV2 := Lib.hid hv2
    have HU2 := Lib.hid hu
    obtain ⟨z2, ⟨s2, g2, A2, n2, c2, rfl, -⟩, -⟩ := hv2
    clear hu HL1 HL2
    have HR2 := Lib.hid ((HR.out.up (w' := w2) (by (repeat (first | exact Below.refl _ _ | exact Go.RowKit.Hid.out (by assumption) | refine Up.trans ?_ (Up.drew _) | refine Up.trans ?_ (Up.drewN _ _) | refine Up.trans ?_ (Up.alloc _ _) | refine Up.trans ?_ (Go.RowKit.Hid.out (by assumption)))))).up (Up.alloc w2 (.cells #[.int .i64 s2, .bool g2, .slice A2 n2 c2] 61)))
    obtain ⟨r0, r1, f0, f1, lr⟩ := HR2.out.facts
    have HP : Hid (parseOut (45 :: t) = if badForm t = true then (0, 0, 4) else if 200 < t.length + 1 then (0, 0, 3) else limOut (parseQ (45 :: t))) := Lib.hid rfl
    have HB : Hid (badForm t = (!longOk (topOf t) || !longOk (lowOf t) || val10 0 (lowOf t) == 0)) := Lib.hid rfl
    obtain ⟨W2, hW2⟩ : ∃ W2, W2 = w2.alloc (.cells #[.int .i64 s2, .bool g2, .slice A2 n2 c2] 61) := ⟨_, rfl⟩
    have HUW2 := Lib.hid (show Up w2 W2 by rw [hW2]; exact Up.alloc _ _)
    have HUF := Lib.hid ((show Up w W2 by (repeat (first | exact Below.refl _ _ | exact Go.RowKit.Hid.out (by assumption) | refine Up.trans ?_ (Up.drew _) | refine Up.trans ?_ (Up.drewN _ _) | refine Up.trans ?_ (Up.alloc _ _) | refine Up.trans ?_ (Go.RowKit.Hid.out (by assumption))))).stored (Nat.le_refl w.heap.size) (.int .i64 0) (.int .i64 0))
    have HRF := Lib.hid ((show CellN W2 w.heap.size 0 0 by rw [hW2]; exact HR2.out).set 0 0).facts
    rw [hW2] at HUF HRF
    rcases h1 : longOk (topOf t) with _ | _
    · have HPQ : Hid (parseOut (45 :: t) = (0, 0, 4)) := Lib.hid (by rw [HP.out, HB.out, h1]; rfl)
      go_wp2
      obtain ⟨z0, z1, -, -, -⟩ := HRF
      refine bodyPost_ret (by simp [results, Tryz.results15, go_sem, z0, z1]; try rfl) rfl ?_
      exact ⟨by rw [HPQ.out]; try rfl, HUF.out⟩
    rcases h2 : longOk (lowOf t) with _ | _
    · have HPQ : Hid (parseOut (45 :: t) = (0, 0, 4)) := Lib.hid (by rw [HP.out, HB.out, h1, h2]; rfl)
      go_wp2
      obtain ⟨z0, z1, -, -, -⟩ := HRF
      refine bodyPost_ret (by simp [results, Tryz.results15, go_sem, z0, z1]; try rfl) rfl ?_
      exact ⟨by rw [HPQ.out]; try rfl, HUF.out⟩
    have hz1 : RI w1 (Value.agg #[.int .i64 s1, .bool g1, .slice A1 n1 c1]) (val10 0 (topOf t) : Nat) := by
      obtain ⟨z, h, hh⟩ := HV1.out; rw [← hh h1]; exact h
    have hz2 : RI W2 (Value.agg #[.int .i64 s2, .bool g2, .slice A2 n2 c2]) (val10 0 (lowOf t) : Nat) := by
      obtain ⟨z, h, hh⟩ := HV2.out; rw [← hh h2]; exact h.up HUW2.out
    have HZ1 := Lib.hid hz1
    have HZ2 := Lib.hid hz2
    have HCQ := Lib.hid (show CellI W2 w2.heap.size s2 g2 (.slice A2 n2 c2) by rw [hW2]; exact CellI.new _ _ _ _)
    obtain ⟨q0, q1, q2, lq⟩ := HCQ.out.facts
    rw [hW2] at q0 q1 q2 lq
    clear hz1 hz2 HV1 HV2
    go_wp2_with fail
    rw [← hW2] at HR2 HUF HRF ⊢
    clear hW2 q0 q1 q2 lq r0 r1 f0 f1 lr
    refine Calls.mono (refSign_any _ _ _ HZ2.out) ?_
    rintro e w3 ⟨rfl, hu⟩
    have HU3 := Lib.hid hu
    clear hu HUF HRF
    have HR3 := Lib.hid (HR2.out.up (w' := w3) (by (repeat (first | exact Below.refl _ _ | exact Go.RowKit.Hid.out (by assumption) | refine Up.trans ?_ (Up.drew _) | refine Up.trans ?_ (Up.drewN _ _) | refine Up.trans ?_ (Up.alloc _ _) | refine Up.trans ?_ (Go.RowKit.Hid.out (by assumption))))))
    obtain ⟨r0, r1, f0, f1, lr⟩ := HR3.out.facts
    by_cases h3 : val10 0 (lowOf t) = 0
    · have HUF3 := Lib.hid ((show Up w w3 by (repeat (first | exact Below.refl _ _ | exact Go.RowKit.Hid.out (by assumption) | refine Up.trans ?_ (Up.drew _) | refine Up.trans ?_ (Up.drewN _ _) | refine Up.trans ?_ (Up.alloc _ _) | refine Up.trans ?_ (Go.RowKit.Hid.out (by assumption))))).stored (Nat.le_refl w.heap.size) (.int .i64 0) (.int .i64 0))
      have HRF3 := Lib.hid (HR3.out.set 0 0).facts
      have hs : ((val10 0 (lowOf t) : Nat) : Int).sign = 0 := by rw [h3]; rfl
      rw [hs]
      have HPQ : Hid (parseOut (45 :: t) = (0, 0, 4)) := Lib.hid (by rw [HP.out, HB.out, h1, h2, h3]; rfl)
      go_wp2
      obtain ⟨z0, z1, -, -, -⟩ := HRF3.out
      refine bodyPost_ret (by simp [results, Tryz.results15, go_sem, z0, z1]; try rfl) rfl ?_
      exact ⟨by rw [HPQ.out]; try rfl, HUF3.out⟩
    · have hs : ((val10 0 (lowOf t) : Nat) : Int).sign = 1 := Int.sign_eq_one_of_pos (by omega)
      rw [hs]
      have hb : badForm t = false := by rw [HB.out, h1, h2]; simp [h3]
      by_cases h4 : 200 < t.length + 1
      · have HUF3 := Lib.hid ((show Up w w3 by (repeat (first | exact Below.refl _ _ | exact Go.RowKit.Hid.out (by assumption) | refine Up.trans ?_ (Up.drew _) | refine Up.trans ?_ (Up.drewN _ _) | refine Up.trans ?_ (Up.alloc _ _) | refine Up.trans ?_ (Go.RowKit.Hid.out (by assumption))))).stored (Nat.le_refl w.heap.size) (.int .i64 0) (.int .i64 0))
        have HRF3 := Lib.hid (HR3.out.set 0 0).facts
        have HPQ : Hid (parseOut (45 :: t) = (0, 0, 3)) := Lib.hid (by rw [HP.out, hb, if_neg (by simp), if_pos h4])
        have i1 : (200 : Int) < (t.length : Int) + 1 := by omega
        clear h4 hl
        go_wp2
        obtain ⟨z0, z1, -, -, -⟩ := HRF3.out
        refine bodyPost_ret (by simp [results, Tryz.results15, go_sem, z0, z1]; try rfl) rfl ?_
        exact ⟨by rw [HPQ.out]; try rfl, HUF3.out⟩
      · have HPQ : Hid (parseOut (45 :: t) = limOut (parseQ (45 :: t))) := Lib.hid (by rw [HP.out, hb, if_neg (by simp), if_neg h4])
        have i1 : ¬ (200 : Int) < (t.length : Int) + 1 := by omega
        clear h4 hl
        have HCPV := Lib.hid ((CellI.new w1 s1 g1 (.slice A1 n1 c1)).up (w' := w3) (by (repeat (first | exact Below.refl _ _ | exact Go.RowKit.Hid.out (by assumption) | refine Up.trans ?_ (Up.drew _) | refine Up.trans ?_ (Up.drewN _ _) | refine Up.trans ?_ (Up.alloc _ _) | refine Up.trans ?_ (Go.RowKit.Hid.out (by assumption))))))
        obtain ⟨p0, p1, p2, lp⟩ := HCPV.out.facts
        go_wp2_with fail
        refine Calls.mono (refMinus_any _ _ _ (HZ1.out.up (by (repeat (first | exact Below.refl _ _ | exact Go.RowKit.Hid.out (by assumption) | refine Up.trans ?_ (Up.drew _) | refine Up.trans ?_ (Up.drewN _ _) | refine Up.trans ?_ (Up.alloc _ _) | refine Up.trans ?_ (Go.RowKit.Hid.out (by assumption))))))) ?_
        rintro e w4 ⟨v, rfl, hv, hu⟩
        have HU4 := Lib.hid hu
        have HV4 := Lib.hid hv
        obtain ⟨s4, g4, A4, n4, c4, rfl, -⟩ := hv
        clear hu p0 p1 p2 lp r0 r1 f0 f1 lr
        have HCP4 := Lib.hid (HCPV.out.up (w' := w4) (by (repeat (first | exact Below.refl _ _ | exact Go.RowKit.Hid.out (by assumption) | refine Up.trans ?_ (Up.drew _) | refine Up.trans ?_ (Up.drewN _ _) | refine Up.trans ?_ (Up.alloc _ _) | refine Up.trans ?_ (Go.RowKit.Hid.out (by assumption))))))
        obtain ⟨p0, p1, p2, lp⟩ := HCP4.out.facts
        have f0 := HCP4.out.frozen 0
        have f1 := HCP4.out.frozen 1
        have f2 := HCP4.out.frozen 2
        have HCQ4 := Lib.hid (HCQ.out.up (w' := w4) (by (repeat (first | exact Below.refl _ _ | exact Go.RowKit.Hid.out (by assumption) | refine Up.trans ?_ (Up.drew _) | refine Up.trans ?_ (Up.drewN _ _) | refine Up.trans ?_ (Up.alloc _ _) | refine Up.trans ?_ (Go.RowKit.Hid.out (by assumption))))))
        obtain ⟨q0, q1, q2, lq⟩ := HCQ4.out.facts
        have hlt : w1.heap.size < w2.heap.size := Nat.lt_of_lt_of_le (CellI.new w1 s1 g1 (.slice A1 n1 c1)).lt HU2.out.size
        have hlw : w.heap.size < w1.heap.size := Nat.lt_of_lt_of_le HR.out.lt (show Up wB w1 by (repeat (first | exact Below.refl _ _ | exact Go.RowKit.Hid.out (by assumption) | refine Up.trans ?_ (Up.drew _) | refine Up.trans ?_ (Up.drewN _ _) | refine Up.trans ?_ (Up.alloc _ _) | refine Up.trans ?_ (Go.RowKit.Hid.out (by assumption))))).size
        have hne1 : (w1.heap.size = w2.heap.size) = False := eq_false (by omega)
        have hne2 : (w2.heap.size = w1.heap.size) = False := eq_false (by omega)
        have hrl1 : rl (-((val10 0 (topOf t) : Nat) : Int)) ≤ 536870912 := by
          rw [rl_neg]
          have := rl_val10 (val10_lt _ (dig_of_long h1)); have := top_le t; omega
        have hrl2 : rl ((val10 0 (lowOf t) : Nat) : Int) ≤ 536870912 := by
          have := rl_val10 (val10_lt _ (dig_of_long h2)); have := low_le t (by omega); omega
        have HMK := Lib.hid (fun W u1 u2 (k1 : RI W u1 (-((val10 0 (topOf t) : Nat) : Int))) (k2 : RI W u2 ((val10 0 (lowOf t) : Nat) : Int)) => refMake_q u1 u2 _ _ W k1 k2 (by omega) hrl1 hrl2)
        have HNM := Lib.hid (fun W u q (k : RQ W u q) => refNum_q u q W k)
        clear hrl1 hrl2
        go_wp2_with fail
        obtain ⟨wZ, hwZ⟩ : ∃ wZ, wZ = (((w4.setCell ⟨w1.heap.size, 0, none⟩ (.int .i64 s4)).setCell ⟨w1.heap.size, 1, none⟩ (.bool g4)).setCell ⟨w1.heap.size, 2, none⟩ (.slice A4 n4 c4)) := ⟨_, rfl⟩
        have HVZ := Lib.hid (show RI wZ (.agg #[.int .i64 s4, .bool g4, .slice A4 n4 c4]) _ by rw [hwZ]; exact HV4.out.putI HCP4.out _ _ _)
        have HQZ := Lib.hid (show RI wZ (.agg #[.int .i64 s2, .bool g2, .slice A2 n2 c2]) _ by rw [hwZ]; exact (HZ2.out.up (w' := w4) (by (repeat (first | exact Below.refl _ _ | exact Go.RowKit.Hid.out (by assumption) | refine Up.trans ?_ (Up.drew _) | refine Up.trans ?_ (Up.drewN _ _) | refine Up.trans ?_ (Up.alloc _ _) | refine Up.trans ?_ (Go.RowKit.Hid.out (by assumption)))))).putI HCP4.out _ _ _)
        have HRZ := Lib.hid (show CellN wZ w.heap.size 0 0 by rw [hwZ]; exact (HR3.out.up (w' := w4) (by (repeat (first | exact Below.refl _ _ | exact Go.RowKit.Hid.out (by assumption) | refine Up.trans ?_ (Up.drew _) | refine Up.trans ?_ (Up.drewN _ _) | refine Up.trans ?_ (Up.alloc _ _) | refine Up.trans ?_ (Go.RowKit.Hid.out (by assumption)))))).far3 (g' := w1.heap.size) (by omega) _ _ _)
        have HUZ := Lib.hid (show Up w wZ by rw [hwZ]; exact Up.put3 (show Up w w4 by (repeat (first | exact Below.refl _ _ | exact Go.RowKit.Hid.out (by assumption) | refine Up.trans ?_ (Up.drew _) | refine Up.trans ?_ (Up.drewN _ _) | refine Up.trans ?_ (Up.alloc _ _) | refine Up.trans ?_ (Go.RowKit.Hid.out (by assumption))))) (show w.heap.size ≤ w1.heap.size by omega) _ _ _)
        rw [← hwZ]
        clear hwZ p0 p1 p2 lp q0 q1 q2 lq f0 f1 f2
        refine Calls.mono (HMK.out _ _ _ HVZ.out HQZ.out) ?_
        rintro e w5 ⟨v, rfl, hv, hu⟩
        have HU5 := Lib.hid hu
        have HV5 := Lib.hid hv
        clear hu hv
        go_wp2_with fail
        refine Calls.mono (HNM.out _ _ _ HV5.out) ?_
        rintro e w6 ⟨rfl, hu⟩
        have HU6 := Lib.hid hu
        clear hu
        have HR6 := Lib.hid (HRZ.out.up (w' := w6) (by (repeat (first | exact Below.refl _ _ | exact Go.RowKit.Hid.out (by assumption) | refine Up.trans ?_ (Up.drew _) | refine Up.trans ?_ (Up.drewN _ _) | refine Up.trans ?_ (Up.alloc _ _) | refine Up.trans ?_ (Go.RowKit.Hid.out (by assumption))))))
        obtain ⟨r0, r1, f0, f1, lr⟩ := HR6.out.facts
        have HPX : Hid (parseOut (45 :: t) = (numX true (ratOf (-((val10 0 (topOf t) : Nat) : Int)) ((val10 0 (lowOf t) : Nat) : Int)), numY true (ratOf (-((val10 0 (topOf t) : Nat) : Int)) ((val10 0 (lowOf t) : Nat) : Int)), numE true (ratOf (-((val10 0 (topOf t) : Nat) : Int)) ((val10 0 (lowOf t) : Nat) : Int)))) := Lib.hid (by
          rw [HPQ.out]
          unfold limOut numX numY numE
          have e : parseQ (45 :: t) = ratOf (-((val10 0 (topOf t) : Nat) : Int)) ((val10 0 (lowOf t) : Nat) : Int) := rfl
          rw [e]
          cases fits (ratOf (-((val10 0 (topOf t) : Nat) : Int)) ((val10 0 (lowOf t) : Nat) : Int)) <;> rfl)
        generalize ratOf (-((val10 0 (topOf t) : Nat) : Int)) ((val10 0 (lowOf t) : Nat) : Int) = q at *
        have HUF3 := Lib.hid ((show Up w w6 by (repeat (first | exact Below.refl _ _ | exact Go.RowKit.Hid.out (by assumption) | refine Up.trans ?_ (Up.drew _) | refine Up.trans ?_ (Up.drewN _ _) | refine Up.trans ?_ (Up.alloc _ _) | refine Up.trans ?_ (Go.RowKit.Hid.out (by assumption))))).stored (Nat.le_refl w.heap.size) (.int .i64 (numX true q)) (.int .i64 (numY true q)))
        have HRF3 := Lib.hid (HR6.out.set (numX true q) (numY true q)).facts
        go_wp2
        obtain ⟨z0, z1, -, -, -⟩ := HRF3.out
        refine bodyPost_ret (by simp [results, Tryz.results15, go_sem, z0, z1]; try rfl) rfl ?_
        exact ⟨by rw [HPX.out], HUF3.out⟩
end Go.Proofs.YtgcmogldiahdpaaGreatDoor

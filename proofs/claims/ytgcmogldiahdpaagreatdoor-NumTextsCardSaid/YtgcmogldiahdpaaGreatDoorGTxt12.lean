/- Walks of a law. -/
import Derived.Test.YtgcmogldiahdpaaGreatDoorGTxt11
import Derived.Deep.RegionWith
import Derived.Deep.CutBlock
namespace Go.Proofs.YtgcmogldiahdpaaGreatDoor
open Go.RowKit Fm
set_option maxHeartbeats 4000000 in
set_option maxRecDepth 10000 in
theorem refParse_pos (b : UInt8) (r : List UInt8) (w : World) (hb45 : b ≠ 45) (hl : (b :: r).length ≤ 400) :
    Calls Tryz.prog 15 #[.string ⟨(b :: r).toArray⟩] w fun e w' => e = .returned (.tuple #[.agg #[.int .i64 (parseOut (b :: r)).1, .int .i64 (parseOut (b :: r)).2.1], .int .i64 (parseOut (b :: r)).2.2]) ∧ Up w w' := by
  have hlen : (r.length : Int) + 1 ≤ 400 := by simp at hl; omega
  have h0 : (((ByteArray.mk (b :: r).toArray)[0]'(by show 0 < (b :: r).toArray.size; simp)).toNat : Int) ≠ 45 := by
    intro e
    refine hb45 ?_
    show (ByteArray.mk (b :: r).toArray)[0]'(by show 0 < (b :: r).toArray.size; simp) = 45
    exact UInt8.toNat_inj.1 (by show _ = 45; omega)
  have HR := Lib.hid (CellN.new w 0 0)
  have HU := Lib.hid (Up.alloc w (.cells #[.int .i64 0, .int .i64 0] 23))
  go_enter Tryz.func15, Tryz.ntmps15
  go_upto_block 0 with fail
  generalize w.alloc (.cells #[.int .i64 0, .int .i64 0] 23) = wB at *
  obtain ⟨t, ht⟩ : ∃ t, t = b :: r := ⟨_, rfl⟩
  have htl : t.length = r.length + 1 := by rw [ht]; rfl
  have hng : isNeg t = false := by rw [ht]; show (b == 45) = false; simpa using hb45
  have hug : unsig t = t := by unfold unsig; rw [hng]; rfl
  have hx0 : (ByteArray.mk (b :: r).toArray)[0]'(by show 0 < (b :: r).toArray.size; simp) = b := rfl
  rw [hx0] at h0
  have hbf : ((b.toNat : Int) == 45) = false := by simpa using h0
  rw [hx0, hbf, ← ht]
  have hl : t.length ≤ 400 := by omega
  have hlen : (t.length : Int) ≤ 400 := by omega
  have HNG := Lib.hid hng
  have HUG := Lib.hid hug
  generalize (b.toNat : Int) = bn at *
  have HBR := Lib.hid (show parseOut (b :: r) = parseOut t by rw [ht])
  clear hx0 ht
  clear htl hng hug hb45 h0 hbf
  go_cut [4, 6] (fun s4 s6 wx => s4 = .string ⟨(topOf t).toArray⟩ ∧ s6 = .string ⟨(lowOf t).toArray⟩ ∧ Up wB wx)
  case first =>
    go_step
    go_loopw [4, 6, 7] (fun s4 s6 i wr => s4 = .string ⟨t.toArray⟩ ∧ s6 = .string ⟨#[49]⟩ ∧ ∃ k : Nat, k ≤ t.length ∧ i = .int .i64 k ∧ Hid ((t.take k).all notSl = true) ∧ Hid (Up wB wr)) (fun _ _ i _ => t.length - (intOf i).toNat)
    case atStart => exact ⟨rfl, rfl, 0, by omega, rfl, Lib.hid rfl, Lib.hid (Up.refl _)⟩
    case round =>
      obtain ⟨rfl, rfl, k, hk, rfl, HAL, HUP⟩ := hrel
      by_cases hkl : k < t.length
      · by_cases hx : t[k] = 47
        · obtain ⟨e1, e2⟩ := hasLow_take t k hkl HAL.out hx
          have hbx : (ByteArray.mk t.toArray)[k]'(by show k < t.toArray.size; simpa using hkl) = 47 := hx
          have i0 : (0 : Int) ≤ (k : Int) := by omega
          have i1 : (k : Int) < (t.length : Int) := by omega
          have i2 : ¬ ((t.length : Int) < (k : Int)) := by omega
          have i3 : ¬ ((t.length : Int) < (k : Int) + 1) := by omega
          have i4 : (k : Int) + 1 ≤ (t.length : Int) := by omega
          have i5 : (0 : Int) ≤ (k : Int) + 1 := by omega
          have i6 : (k : Int) ≤ (t.length : Int) := by omega
          have i7 : IntKind.i64.wrap ((k : Int) + 1) = (k : Int) + 1 := IntWalk.i64_in _ (by omega)
          have HT1 : Hid ((ByteArray.mk t.toArray).extract 0 k = ByteArray.mk (topOf t).toArray) := Lib.hid (by
            rw [e1]; apply ByteArray.ext; simp)
          have HT2 : Hid ((ByteArray.mk t.toArray).extract (k + 1) t.length = ByteArray.mk (lowOf t).toArray) := Lib.hid (by rw [e2]; exact str_drop t (k + 1))
          go_upto_region 10 with fail
          go_region_with (fail)
          all_goals
            go_wp2
            go_meet
            exact ⟨by rw [← HT1.out], by rw [← HT2.out], by (repeat (first | exact Below.refl _ _ | exact Go.RowKit.Hid.out (by assumption) | refine Up.trans ?_ (Up.drew _) | refine Up.trans ?_ (Up.drewN _ _) | refine Up.trans ?_ (Up.alloc _ _) | refine Up.trans ?_ (Go.RowKit.Hid.out (by assumption))))⟩
        · have HN := Lib.hid (notSl_next t k hkl HAL.out hx)
          have hbx : (((ByteArray.mk t.toArray)[k]'(by show k < t.toArray.size; simpa using hkl)).toNat : Int) ≠ 47 := by
            intro e
            refine hx ?_
            show (ByteArray.mk t.toArray)[k]'(by show k < t.toArray.size; simpa using hkl) = 47
            exact UInt8.toNat_inj.1 (by show _ = 47; omega)
          have i0 : (0 : Int) ≤ (k : Int) := by omega
          have i1 : (k : Int) < (t.length : Int) := by omega
          go_wp2
          exact ⟨⟨rfl, rfl, k + 1, hkl, by simp, HN, HUP⟩, by simp [intOf]; omega⟩
      · have hke : k = t.length := by omega
        subst hke
        have hh : hasLow t = false := by unfold hasLow; rw [List.take_length] at HAL; rw [HAL.out]; rfl
        go_wp2
        go_meet
        exact ⟨by rw [top_all _ hh], by unfold lowOf; rw [hh]; rfl, HUP.out⟩
  case rest =>
    obtain ⟨rfl, rfl, hu⟩ := hcut
    have HUC := Lib.hid hu
    clear hu
    have ltop : (topOf t).length ≤ 400 := Nat.le_trans (top_le t) (by omega)
    have llow : (lowOf t).length ≤ 400 := low_le t (by omega)
    have HL1 := Lib.hid (fun W => refLong_any (topOf t) W ltop)
    have HL2 := Lib.hid (fun W => refLong_any (lowOf t) W llow)
    clear ltop llow
    go_wp2_with fail
    refine Calls.mono (HL1.out _) ?_
    rintro e w1 ⟨v1, rfl, hv1, hu⟩
    have HV1 := Lib.hid hv1
    have HU1 := Lib.hid hu
    obtain ⟨z1, ⟨s1, g1, A1, n1, c1, rfl, -⟩, -⟩ := hv1
    clear hu
    go_wp2_with fail
    refine Calls.mono (HL2.out _) ?_
    rintro e w2 ⟨v2, rfl, hv2, hu⟩
    have HV2 := Lib.hid hv2
    have HU2 := Lib.hid hu
    obtain ⟨z2, ⟨s2, g2, A2, n2, c2, rfl, -⟩, -⟩ := hv2
    clear hu HL1 HL2
    have HR2 := Lib.hid ((HR.out.up (w' := w2) (by (repeat (first | exact Below.refl _ _ | exact Go.RowKit.Hid.out (by assumption) | refine Up.trans ?_ (Up.drew _) | refine Up.trans ?_ (Up.drewN _ _) | refine Up.trans ?_ (Up.alloc _ _) | refine Up.trans ?_ (Go.RowKit.Hid.out (by assumption)))))).up (Up.alloc w2 (.cells #[.int .i64 s2, .bool g2, .slice A2 n2 c2] 61)))
    obtain ⟨r0, r1, f0, f1, lr⟩ := HR2.out.facts
    have HP : Hid (parseOut t = if badForm t = true then (0, 0, 4) else if 200 < t.length then (0, 0, 3) else limOut (parseQ t)) := Lib.hid (by unfold parseOut; rw [HUG.out])
    have HB : Hid (badForm t = (!longOk (topOf t) || !longOk (lowOf t) || val10 0 (lowOf t) == 0)) := Lib.hid rfl
    obtain ⟨W2, hW2⟩ : ∃ W2, W2 = w2.alloc (.cells #[.int .i64 s2, .bool g2, .slice A2 n2 c2] 61) := ⟨_, rfl⟩
    have HUW2 := Lib.hid (show Up w2 W2 by rw [hW2]; exact Up.alloc _ _)
    have HUF := Lib.hid ((show Up w W2 by (repeat (first | exact Below.refl _ _ | exact Go.RowKit.Hid.out (by assumption) | refine Up.trans ?_ (Up.drew _) | refine Up.trans ?_ (Up.drewN _ _) | refine Up.trans ?_ (Up.alloc _ _) | refine Up.trans ?_ (Go.RowKit.Hid.out (by assumption))))).stored (Nat.le_refl w.heap.size) (.int .i64 0) (.int .i64 0))
    have HRF := Lib.hid ((show CellN W2 w.heap.size 0 0 by rw [hW2]; exact HR2.out).set 0 0).facts
    rw [hW2] at HUF HRF
    rcases h1 : longOk (topOf t) with _ | _
    · have HPQ : Hid (parseOut t = (0, 0, 4)) := Lib.hid (by rw [HP.out, HB.out, h1]; rfl)
      go_wp2
      obtain ⟨z0, z1, -, -, -⟩ := HRF
      refine bodyPost_ret (by simp [results, Tryz.results15, go_sem, z0, z1]; try rfl) rfl ?_
      exact ⟨by rw [HBR.out, HPQ.out]; try rfl, HUF.out⟩
    rcases h2 : longOk (lowOf t) with _ | _
    · have HPQ : Hid (parseOut t = (0, 0, 4)) := Lib.hid (by rw [HP.out, HB.out, h1, h2]; rfl)
      go_wp2
      obtain ⟨z0, z1, -, -, -⟩ := HRF
      refine bodyPost_ret (by simp [results, Tryz.results15, go_sem, z0, z1]; try rfl) rfl ?_
      exact ⟨by rw [HBR.out, HPQ.out]; try rfl, HUF.out⟩
    have hz1 : RI w1 (Value.agg #[.int .i64 s1, .bool g1, .slice A1 n1 c1]) (val10 0 (topOf t) : Nat) := by
      obtain ⟨z, h, hh⟩ := HV1.out; rw [← hh h1]; exact h
    have hz2 : RI W2 (Value.agg #[.int .i64 s2, .bool g2, .slice A2 n2 c2]) (val10 0 (lowOf t) : Nat) := by
      obtain ⟨z, h, hh⟩ := HV2.out; rw [← hh h2]; exact h.up HUW2.out
    have HZ1 := Lib.hid hz1
    have HZ2 := Lib.hid hz2
    have HCQ := Lib.hid (show CellI W2 w2.heap.size s2 g2 (.slice A2 n2 c2) by rw [hW2]; exact CellI.new _ _ _ _)
    obtain ⟨q0, q1, q2, lq⟩ := HCQ.out.facts
    rw [hW2] at q0 q1 q2 lq
    clear hz1 hz2 HV1 HV2
    go_wp2_with fail
    rw [← hW2] at HR2 HUF HRF ⊢
    clear hW2 q0 q1 q2 lq r0 r1 f0 f1 lr
    refine Calls.mono (refSign_any _ _ _ HZ2.out) ?_
    rintro e w3 ⟨rfl, hu⟩
    have HU3 := Lib.hid hu
    clear hu HUF HRF
    have HR3 := Lib.hid (HR2.out.up (w' := w3) (by (repeat (first | exact Below.refl _ _ | exact Go.RowKit.Hid.out (by assumption) | refine Up.trans ?_ (Up.drew _) | refine Up.trans ?_ (Up.drewN _ _) | refine Up.trans ?_ (Up.alloc _ _) | refine Up.trans ?_ (Go.RowKit.Hid.out (by assumption))))))
    obtain ⟨r0, r1, f0, f1, lr⟩ := HR3.out.facts
    by_cases h3 : val10 0 (lowOf t) = 0
    · have HUF3 := Lib.hid ((show Up w w3 by (repeat (first | exact Below.refl _ _ | exact Go.RowKit.Hid.out (by assumption) | refine Up.trans ?_ (Up.drew _) | refine Up.trans ?_ (Up.drewN _ _) | refine Up.trans ?_ (Up.alloc _ _) | refine Up.trans ?_ (Go.RowKit.Hid.out (by assumption))))).stored (Nat.le_refl w.heap.size) (.int .i64 0) (.int .i64 0))
      have HRF3 := Lib.hid (HR3.out.set 0 0).facts
      have hs : ((val10 0 (lowOf t) : Nat) : Int).sign = 0 := by rw [h3]; rfl
      rw [hs]
      have HPQ : Hid (parseOut t = (0, 0, 4)) := Lib.hid (by rw [HP.out, HB.out, h1, h2, h3]; rfl)
      go_wp2
      obtain ⟨z0, z1, -, -, -⟩ := HRF3.out
      refine bodyPost_ret (by simp [results, Tryz.results15, go_sem, z0, z1]; try rfl) rfl ?_
      exact ⟨by rw [HBR.out, HPQ.out]; try rfl, HUF3.out⟩
    · have hs : ((val10 0 (lowOf t) : Nat) : Int).sign = 1 := Int.sign_eq_one_of_pos (by omega)
      rw [hs]
      have hb : badForm t = false := by rw [HB.out, h1, h2]; simp [h3]
      by_cases h4 : 200 < t.length
      · have HUF3 := Lib.hid ((show Up w w3 by (repeat (first | exact Below.refl _ _ | exact Go.RowKit.Hid.out (by assumption) | refine Up.trans ?_ (Up.drew _) | refine Up.trans ?_ (Up.drewN _ _) | refine Up.trans ?_ (Up.alloc _ _) | refine Up.trans ?_ (Go.RowKit.Hid.out (by assumption))))).stored (Nat.le_refl w.heap.size) (.int .i64 0) (.int .i64 0))
        have HRF3 := Lib.hid (HR3.out.set 0 0).facts
        have HPQ : Hid (parseOut t = (0, 0, 3)) := Lib.hid (by rw [HP.out, hb, if_neg (by simp), if_pos h4])
        have i1 : (200 : Int) < (t.length : Int) := by omega
        clear h4 hl
        go_wp2
        obtain ⟨z0, z1, -, -, -⟩ := HRF3.out
        refine bodyPost_ret (by simp [results, Tryz.results15, go_sem, z0, z1]; try rfl) rfl ?_
        exact ⟨by rw [HBR.out, HPQ.out]; try rfl, HUF3.out⟩
      · have HPQ : Hid (parseOut t = limOut (parseQ t)) := Lib.hid (by rw [HP.out, hb, if_neg (by simp), if_neg h4])
        have i1 : ¬ (200 : Int) < (t.length : Int) := by omega
        clear h4 hl
        have HCPV := Lib.hid ((CellI.new w1 s1 g1 (.slice A1 n1 c1)).up (w' := w3) (by (repeat (first | exact Below.refl _ _ | exact Go.RowKit.Hid.out (by assumption) | refine Up.trans ?_ (Up.drew _) | refine Up.trans ?_ (Up.drewN _ _) | refine Up.trans ?_ (Up.alloc _ _) | refine Up.trans ?_ (Go.RowKit.Hid.out (by assumption))))))
        obtain ⟨p0, p1, p2, lp⟩ := HCPV.out.facts
        have HCQ4 := Lib.hid (HCQ.out.up (w' := w3) (by (repeat (first | exact Below.refl _ _ | exact Go.RowKit.Hid.out (by assumption) | refine Up.trans ?_ (Up.drew _) | refine Up.trans ?_ (Up.drewN _ _) | refine Up.trans ?_ (Up.alloc _ _) | refine Up.trans ?_ (Go.RowKit.Hid.out (by assumption))))))
        obtain ⟨q0, q1, q2, lq⟩ := HCQ4.out.facts
        have hlt : w1.heap.size < w2.heap.size := Nat.lt_of_lt_of_le (CellI.new w1 s1 g1 (.slice A1 n1 c1)).lt HU2.out.size
        have hlw : w.heap.size < w1.heap.size := Nat.lt_of_lt_of_le HR.out.lt (show Up wB w1 by (repeat (first | exact Below.refl _ _ | exact Go.RowKit.Hid.out (by assumption) | refine Up.trans ?_ (Up.drew _) | refine Up.trans ?_ (Up.drewN _ _) | refine Up.trans ?_ (Up.alloc _ _) | refine Up.trans ?_ (Go.RowKit.Hid.out (by assumption))))).size
        have hne1 : (w1.heap.size = w2.heap.size) = False := eq_false (by omega)
        have hne2 : (w2.heap.size = w1.heap.size) = False := eq_false (by omega)
        have hrl1 : rl (((val10 0 (topOf t) : Nat) : Int)) ≤ 536870912 := by
          have := rl_val10 (val10_lt _ (dig_of_long h1)); have := top_le t; omega
        have hrl2 : rl ((val10 0 (lowOf t) : Nat) : Int) ≤ 536870912 := by
          have := rl_val10 (val10_lt _ (dig_of_long h2)); have := low_le t (by omega); omega
        have HMK := Lib.hid (fun W u1 u2 (k1 : RI W u1 (((val10 0 (topOf t) : Nat) : Int))) (k2 : RI W u2 ((val10 0 (lowOf t) : Nat) : Int)) => refMake_q u1 u2 _ _ W k1 k2 (by omega) hrl1 hrl2)
        have HNM := Lib.hid (fun W u q (k : RQ W u q) => refNum_q u q W k)
        clear hrl1 hrl2
        go_wp2_with fail
        have HRZ := HR3
        clear p0 p1 p2 lp q0 q1 q2 lq
        refine Calls.mono (HMK.out _ _ _ (HZ1.out.up (by (repeat (first | exact Below.refl _ _ | exact Go.RowKit.Hid.out (by assumption) | refine Up.trans ?_ (Up.drew _) | refine Up.trans ?_ (Up.drewN _ _) | refine Up.trans ?_ (Up.alloc _ _) | refine Up.trans ?_ (Go.RowKit.Hid.out (by assumption)))))) (HZ2.out.up (by (repeat (first | exact Below.refl _ _ | exact Go.RowKit.Hid.out (by assumption) | refine Up.trans ?_ (Up.drew _) | refine Up.trans ?_ (Up.drewN _ _) | refine Up.trans ?_ (Up.alloc _ _) | refine Up.trans ?_ (Go.RowKit.Hid.out (by assumption))))))) ?_
        rintro e w5 ⟨v, rfl, hv, hu⟩
        have HU5 := Lib.hid hu
        have HV5 := Lib.hid hv
        clear hu hv
        go_wp2_with fail
        refine Calls.mono (HNM.out _ _ _ HV5.out) ?_
        rintro e w6 ⟨rfl, hu⟩
        have HU6 := Lib.hid hu
        clear hu
        have HR6 := Lib.hid (HRZ.out.up (w' := w6) (by (repeat (first | exact Below.refl _ _ | exact Go.RowKit.Hid.out (by assumption) | refine Up.trans ?_ (Up.drew _) | refine Up.trans ?_ (Up.drewN _ _) | refine Up.trans ?_ (Up.alloc _ _) | refine Up.trans ?_ (Go.RowKit.Hid.out (by assumption))))))
        obtain ⟨r0, r1, f0, f1, lr⟩ := HR6.out.facts
        have HPX : Hid (parseOut t = (numX true (ratOf (((val10 0 (topOf t) : Nat) : Int)) ((val10 0 (lowOf t) : Nat) : Int)), numY true (ratOf (((val10 0 (topOf t) : Nat) : Int)) ((val10 0 (lowOf t) : Nat) : Int)), numE true (ratOf (((val10 0 (topOf t) : Nat) : Int)) ((val10 0 (lowOf t) : Nat) : Int)))) := Lib.hid (by
          rw [HPQ.out]
          unfold limOut numX numY numE
          have e : parseQ t = ratOf (((val10 0 (topOf t) : Nat) : Int)) ((val10 0 (lowOf t) : Nat) : Int) := by unfold parseQ; rw [HNG.out, HUG.out]; rfl
          rw [e]
          cases fits (ratOf (((val10 0 (topOf t) : Nat) : Int)) ((val10 0 (lowOf t) : Nat) : Int)) <;> rfl)
        generalize ratOf (((val10 0 (topOf t) : Nat) : Int)) ((val10 0 (lowOf t) : Nat) : Int) = q at *
        have HUF3 := Lib.hid ((show Up w w6 by (repeat (first | exact Below.refl _ _ | exact Go.RowKit.Hid.out (by assumption) | refine Up.trans ?_ (Up.drew _) | refine Up.trans ?_ (Up.drewN _ _) | refine Up.trans ?_ (Up.alloc _ _) | refine Up.trans ?_ (Go.RowKit.Hid.out (by assumption))))).stored (Nat.le_refl w.heap.size) (.int .i64 (numX true q)) (.int .i64 (numY true q)))
        have HRF3 := Lib.hid (HR6.out.set (numX true q) (numY true q)).facts
        go_wp2
        obtain ⟨z0, z1, -, -, -⟩ := HRF3.out
        refine bodyPost_ret (by simp [results, Tryz.results15, go_sem, z0, z1]; try rfl) rfl ?_
        exact ⟨by rw [HBR.out, HPX.out], HUF3.out⟩
end Go.Proofs.YtgcmogldiahdpaaGreatDoor

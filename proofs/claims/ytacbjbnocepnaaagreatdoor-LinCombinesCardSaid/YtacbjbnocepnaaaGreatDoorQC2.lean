/- What a further law needs. -/
import Derived.Test.YtacbjbnocepnaaaGreatDoorQC1
import Derived.Test.YtacbjbnocepnaaaGreatDoorQGO
import Derived.Test.YtacbjbnocepnaaaGreatDoorQGQ
import Derived.Test.YtacbjbnocepnaaaGreatDoorQGR
import Derived.Test.YtacbjbnocepnaaaGreatDoorQGS
import Derived.Test.YtacbjbnocepnaaaGreatDoorQHG
import Derived.Test.YtacbjbnocepnaaaGreatDoorQHI
import Derived.Test.YtacbjbnocepnaaaGreatDoorQHJ
import Derived.Deep.RegionHeld3
import Derived.IntWalk
import Derived.ArgAppend
import Derived.Deep.RegionLawGrows
namespace Go.Proofs.YtacbjbnocepnaaaGreatDoor
open Go.RowKit Fm
def refOk (x y : Int) : Bool := decide (1 ≤ y ∧ y ≤ 1152921504606846976 ∧ x ≤ 1152921504606846976 ∧ -1152921504606846976 ≤ x ∧ Int.gcd x y = 1)
set_option maxHeartbeats 2000000 in
set_option maxRecDepth 10000 in
theorem refValid_any (x y : Int) (w : World) (hx1 : -9223372036854775808 ≤ x) (hx2 : x ≤ 9223372036854775807) (hy1 : -9223372036854775808 ≤ y) (hy2 : y ≤ 9223372036854775807) :
    Calls Tryz.prog 88 #[.agg #[.int .i64 x, .int .i64 y]] w fun e w' => e = .returned (.bool (refOk x y)) ∧ Up w w' := by
  by_cases h1 : 1 ≤ y
  · by_cases h2 : y ≤ 1152921504606846976
    · by_cases h3 : x ≤ 1152921504606846976
      · by_cases h4 : -1152921504606846976 ≤ x
        · have hk : refOk x y = decide (Int.gcd x y = 1) := by unfold refOk; simp [h1, h2, h3, h4]
          rw [hk]
          have HO1 := Lib.hid (fun W => refOf_any x W hx1 hx2)
          have HO2 := Lib.hid (fun W => refOf_any y W hy1 hy2)
          have HO3 := Lib.hid (fun W => refOf_any 1 W (by omega) (by omega))
          have HG := Lib.hid (fun W u v (hu : RI W u x) (hv : RI W v y) => refGcd_any u v x y W hu hv (Nat.le_trans (rl_int hx1 hx2) (by omega)) (Nat.le_trans (rl_int hy1 hy2) (by omega)))
          have hgl : rl (Int.gcd x y : Int) ≤ 536870912 := by
            have h5 : (Int.gcd x y : Int) ≤ y := Int.le_of_dvd (by omega) (Int.gcd_dvd_right ..)
            exact Nat.le_trans (rl_int (z := (Int.gcd x y : Int)) (by omega) (by omega)) (by omega)
          have HC := Lib.hid (fun W u v (hu : RI W u (Int.gcd x y : Int)) (hv : RI W v 1) => refCompare_any u v _ 1 W hu hv hgl (Nat.le_trans (rl_int (z := 1) (by omega) (by omega)) (by omega)))
          obtain ⟨s, hs⟩ : ∃ s : Int, s = ((Int.gcd x y : Int) - 1).sign := ⟨_, rfl⟩
          rw [← hs] at HC
          have HS : Hid ((s == 0) = decide (Int.gcd x y = 1)) := by
            unfold Hid
            rw [hs]
            by_cases h5 : Int.gcd x y = 1
            · rw [h5]; rfl
            · rw [decide_eq_false h5]
              have : ((Int.gcd x y : Int) - 1).sign ≠ 0 := fun h => h5 (by have := Int.sign_eq_zero_iff_zero.1 h; omega)
              simp [this]
          clear hs hgl hk
          go_enter Tryz.func88, Tryz.ntmps88
          go_upto_region 3 with fail
          obtain ⟨wB, hwB⟩ : ∃ wB, wB = w.alloc (.cells #[.int .i64 x, .int .i64 y] 55) := ⟨_, rfl⟩
          have HN := Lib.hid (show CellN wB w.heap.size x y by rw [hwB]; exact CellN.new w x y)
          have HU := Lib.hid (show Up w wB by rw [hwB]; exact Up.alloc _ _)
          rw [← hwB]
          clear hwB
          obtain ⟨a0, a1, -, -, la⟩ := HN.out.facts
          go_region_held3 (fun w' => w'.cell? ⟨w.heap.size, 0, none⟩ = some (.int .i64 x) ∧ w'.cell? ⟨w.heap.size, 1, none⟩ = some (.int .i64 y)) (go_keep)
            ((first
              | (go_at_call_of 90 u1
                 refine Calls.mono (HG.out _ _ _ HV1b.out HV2.out) ?_
                 rintro e w3 ⟨u3, rfl, hv3, hu3⟩
                 have HU3 := Lib.hid hu3
                 have HV3 := Lib.hid hv3
                 clear hv3 hu3
                 obtain ⟨a0, a1, -, -, la⟩ := (HN.out.up (w' := w3) (by (repeat (first | exact Below.refl _ _ | exact Hid.out (by assumption) | refine Up.trans ?_ (Up.drew _) | refine Up.trans ?_ (Up.drewN _ _) | refine Up.trans ?_ (Up.alloc _ _) | refine Up.trans ?_ (Hid.out (by assumption)))))).facts)
              | (go_at_call_of 108 u3
                 refine Calls.mono (HC.out _ _ _ HV3b.out HV4.out) ?_
                 rintro e w5 ⟨rfl, hu5⟩
                 have HU5 := Lib.hid hu5
                 clear hu5
                 obtain ⟨a0, a1, -, -, la⟩ := (HN.out.up (w' := w5) (by (repeat (first | exact Below.refl _ _ | exact Hid.out (by assumption) | refine Up.trans ?_ (Up.drew _) | refine Up.trans ?_ (Up.drewN _ _) | refine Up.trans ?_ (Up.alloc _ _) | refine Up.trans ?_ (Hid.out (by assumption)))))).facts)
              | (go_at_call_of 69 (Value.int IntKind.i64 1)
                 refine Calls.mono (HO3.out _) ?_
                 rintro e w4 ⟨u4, rfl, hv4, hu4⟩
                 have HU4 := Lib.hid hu4
                 have HV4 := Lib.hid hv4
                 have HV3b := Lib.hid (HV3.out.up hu4)
                 clear hv4 hu4
                 obtain ⟨a0, a1, -, -, la⟩ := (HN.out.up (w' := w4) (by (repeat (first | exact Below.refl _ _ | exact Hid.out (by assumption) | refine Up.trans ?_ (Up.drew _) | refine Up.trans ?_ (Up.drewN _ _) | refine Up.trans ?_ (Up.alloc _ _) | refine Up.trans ?_ (Hid.out (by assumption)))))).facts)
              | (go_at_call_of 69 (Value.int IntKind.i64 x)
                 refine Calls.mono (HO1.out _) ?_
                 rintro e w1 ⟨u1, rfl, hv1, hu1⟩
                 have HU1 := Lib.hid hu1
                 have HV1 := Lib.hid hv1
                 clear hv1 hu1
                 obtain ⟨a0, a1, -, -, la⟩ := (HN.out.up (w' := w1) (by (repeat (first | exact Below.refl _ _ | exact Hid.out (by assumption) | refine Up.trans ?_ (Up.drew _) | refine Up.trans ?_ (Up.drewN _ _) | refine Up.trans ?_ (Up.alloc _ _) | refine Up.trans ?_ (Hid.out (by assumption)))))).facts)
              | (go_at_call_of 69 (Value.int IntKind.i64 y)
                 refine Calls.mono (HO2.out _) ?_
                 rintro e w2 ⟨u2, rfl, hv2, hu2⟩
                 have HU2 := Lib.hid hu2
                 have HV2 := Lib.hid hv2
                 have HV1b := Lib.hid (HV1.out.up hu2)
                 clear hv2 hu2
                 obtain ⟨a0, a1, -, -, la⟩ := (HN.out.up (w' := w2) (by (repeat (first | exact Below.refl _ _ | exact Hid.out (by assumption) | refine Up.trans ?_ (Up.drew _) | refine Up.trans ?_ (Up.drewN _ _) | refine Up.trans ?_ (Up.alloc _ _) | refine Up.trans ?_ (Hid.out (by assumption)))))).facts)))
          go_wp2
          go_ret
          exact ⟨by rw [← HS.out]; rfl, by (repeat (first | exact Below.refl _ _ | exact Hid.out (by assumption) | refine Up.trans ?_ (Up.drew _) | refine Up.trans ?_ (Up.drewN _ _) | refine Up.trans ?_ (Up.alloc _ _) | refine Up.trans ?_ (Hid.out (by assumption))))⟩
        · have hk : refOk x y = false := by unfold refOk; simp [h4]
          rw [hk]
          go_enter Tryz.func88, Tryz.ntmps88
          go_wp2
          go_ret
          exact ⟨rfl, by (repeat (first | exact Below.refl _ _ | exact Hid.out (by assumption) | refine Up.trans ?_ (Up.drew _) | refine Up.trans ?_ (Up.drewN _ _) | refine Up.trans ?_ (Up.alloc _ _) | refine Up.trans ?_ (Hid.out (by assumption))))⟩
      · have hk : refOk x y = false := by unfold refOk; simp [h3]
        rw [hk]
        go_enter Tryz.func88, Tryz.ntmps88
        go_wp2
        go_ret
        exact ⟨rfl, by (repeat (first | exact Below.refl _ _ | exact Hid.out (by assumption) | refine Up.trans ?_ (Up.drew _) | refine Up.trans ?_ (Up.drewN _ _) | refine Up.trans ?_ (Up.alloc _ _) | refine Up.trans ?_ (Hid.out (by assumption))))⟩
    · have hk : refOk x y = false := by unfold refOk; simp [h2]
      rw [hk]
      go_enter Tryz.func88, Tryz.ntmps88
      go_wp2
      go_ret
      exact ⟨rfl, by (repeat (first | exact Below.refl _ _ | exact Hid.out (by assumption) | refine Up.trans ?_ (Up.drew _) | refine Up.trans ?_ (Up.drewN _ _) | refine Up.trans ?_ (Up.alloc _ _) | refine Up.trans ?_ (Hid.out (by assumption))))⟩
  · have hk : refOk x y = false := by unfold refOk; simp [h1]
    rw [hk]
    go_enter Tryz.func88, Tryz.ntmps88
    go_wp2
    go_ret
    exact ⟨rfl, by (repeat (first | exact Below.refl _ _ | exact Hid.out (by assumption) | refine Up.trans ?_ (Up.drew _) | refine Up.trans ?_ (Up.drewN _ _) | refine Up.trans ?_ (Up.alloc _ _) | refine Up.trans ?_ (Hid.out (by assumption))))⟩
section
variable {w w' : World} {g : Nat} {s s2 : Int} {b b2 : Bool} {v v2 : Value}
end
set_option maxHeartbeats 2000000 in
set_option maxRecDepth 10000 in
theorem refTo_any (x y : Int) (w : World) (hx1 : -9223372036854775808 ≤ x) (hx2 : x ≤ 9223372036854775807) (hy1 : -9223372036854775808 ≤ y) (hy2 : y ≤ 9223372036854775807) :
    Calls Tryz.prog 26 #[.agg #[.int .i64 x, .int .i64 y]] w fun e w' => ∃ v, e = .returned v ∧ RR w' v x y ∧ Up w w' := by
  have HO1 := Lib.hid (fun W => refOf_any x W hx1 hx2)
  have HO2 := Lib.hid (fun W => refOf_any y W hy1 hy2)
  clear hx1 hx2 hy1 hy2
  go_enter Tryz.func26, Tryz.ntmps26
  go_upto_region 1 with fail
  obtain ⟨wB, hwB⟩ : ∃ wB, wB = (w.alloc (.cells #[.int .i64 x, .int .i64 y] 55)).alloc (.cells #[.int .i64 0, .bool false, .slice none 0 0, .int .i64 0, .bool false, .slice none 0 0] 50) := ⟨_, rfl⟩
  have HN := Lib.hid (show CellN wB w.heap.size x y by rw [hwB]; exact (CellN.new w x y).up (Up.alloc _ _))
  have HR := Lib.hid (show CellR wB (w.heap.size + 1) 0 false (.slice none 0 0) 0 false (.slice none 0 0) by
    rw [hwB]
    have := CellR.new (w.alloc (.cells #[.int .i64 x, .int .i64 y] 55)) 0 false (.slice none 0 0) 0 false (.slice none 0 0)
    simpa using this)
  have HU := Lib.hid (show Up w wB by rw [hwB]; exact (Up.alloc _ _).trans (Up.alloc _ _))
  rw [← hwB]
  clear hwB
  obtain ⟨a0, a1, -, -, la⟩ := HN.out.facts
  go_region_held3 (fun w' => w'.cell? ⟨w.heap.size, 0, none⟩ = some (.int .i64 x) ∧ w'.cell? ⟨w.heap.size, 1, none⟩ = some (.int .i64 y)) (go_keep)
    ((first
      | (go_at_call_of 69 (Value.int IntKind.i64 x)
         refine Calls.mono (HO1.out _) ?_
         rintro e w1 ⟨u1, rfl, hv1, hu1⟩
         have HU1 := Lib.hid hu1
         have HV1 := Lib.hid hv1
         obtain ⟨s1, g1, A1, n1, c1, rfl, -⟩ := hv1
         clear hu1
         obtain ⟨a0, a1, -, -, la⟩ := (HN.out.up (w' := w1) (by (repeat (first | exact Below.refl _ _ | exact Hid.out (by assumption) | refine Up.trans ?_ (Up.drew _) | refine Up.trans ?_ (Up.drewN _ _) | refine Up.trans ?_ (Up.alloc _ _) | refine Up.trans ?_ (Hid.out (by assumption)))))).facts)
      | (go_at_call_of 69 (Value.int IntKind.i64 y)
         refine Calls.mono (HO2.out _) ?_
         rintro e w2 ⟨u2, rfl, hv2, hu2⟩
         have HU2 := Lib.hid hu2
         have HV2 := Lib.hid hv2
         have HV1b := Lib.hid (HV1.out.up hu2)
         obtain ⟨s2, g2, A2, n2, c2, rfl, -⟩ := hv2
         clear hu2
         have HX := Lib.hid (HR.out.up (w' := w2) (by (repeat (first | exact Below.refl _ _ | exact Hid.out (by assumption) | refine Up.trans ?_ (Up.drew _) | refine Up.trans ?_ (Up.drewN _ _) | refine Up.trans ?_ (Up.alloc _ _) | refine Up.trans ?_ (Hid.out (by assumption))))))
         obtain ⟨r0, r1, r2, r3, r4, r5, lr⟩ := HX.out.facts
         have f0 := HX.out.frozen 0
         have f1 := HX.out.frozen 1
         have f2 := HX.out.frozen 2
         have f3 := HX.out.frozen 3
         have f4 := HX.out.frozen 4
         have f5 := HX.out.frozen 5
         obtain ⟨a0, a1, -, -, la⟩ := (HN.out.up (w' := w2) (by (repeat (first | exact Below.refl _ _ | exact Hid.out (by assumption) | refine Up.trans ?_ (Up.drew _) | refine Up.trans ?_ (Up.drewN _ _) | refine Up.trans ?_ (Up.alloc _ _) | refine Up.trans ?_ (Hid.out (by assumption)))))).facts)))
  have HF := Lib.hid (HX.out.set s1 g1 (.slice A1 n1 c1) s2 g2 (.slice A2 n2 c2))
  have HP := Lib.hid (HV1b.out.put6 HX.out (.int .i64 s1) (.bool g1) (.slice A1 n1 c1) (.int .i64 s2) (.bool g2) (.slice A2 n2 c2))
  have HQ := Lib.hid (HV2.out.put6 HX.out (.int .i64 s1) (.bool g1) (.slice A1 n1 c1) (.int .i64 s2) (.bool g2) (.slice A2 n2 c2))
  have HUF := Lib.hid ((show Up w w2 by (repeat (first | exact Below.refl _ _ | exact Hid.out (by assumption) | refine Up.trans ?_ (Up.drew _) | refine Up.trans ?_ (Up.drewN _ _) | refine Up.trans ?_ (Up.alloc _ _) | refine Up.trans ?_ (Hid.out (by assumption))))).put6 (show w.heap.size ≤ w.heap.size + 1 by omega) (.int .i64 s1) (.bool g1) (.slice A1 n1 c1) (.int .i64 s2) (.bool g2) (.slice A2 n2 c2))
  go_wp2
  obtain ⟨z0, z1, z2, z3, z4, z5, -⟩ := HF.out.facts
  refine bodyPost_ret (by simp [results, Tryz.results26, go_sem, z0, z1, z2, z3, z4, z5]; try rfl) rfl ?_
  exact ⟨_, rfl, ⟨s1, s2, g1, g2, A1, A2, n1, c1, n2, c2, rfl, HP.out, HQ.out⟩, HUF.out⟩
theorem QB.mul {a b : Rat} {n m k : Nat} (ha : QB a n) (hb : QB b m) (hk : n + m ≤ k) : QB (a * b) k := by
  rw [rat_mul]
  exact QB.divInt (rl_mul ha.1 hb.1 hk) (rl_mul ha.2 hb.2 hk) (Int.mul_ne_zero (den_ne a) (den_ne b))
theorem refOk_eq (x y : Int) : refOk x y = okNum x y := by
  unfold refOk okNum
  apply decide_eq_decide.2
  constructor
  · rintro ⟨a, b, c, d, e⟩; exact ⟨a, b, d, c, e⟩
  · rintro ⟨a, b, c, d, e⟩; exact ⟨a, b, d, c, e⟩
theorem refTo_q (x y : Int) (w : World) (h : okNum x y = true) :
    Calls Tryz.prog 26 #[.agg #[.int .i64 x, .int .i64 y]] w fun e w' => ∃ v, e = .returned v ∧ RQ w' v (ratOf x y) ∧ Up w w' := by
  have hb := ok_bounds h
  obtain ⟨e1, e2⟩ := ratOf_ok h
  unfold RQ
  rw [e1, e2]
  exact refTo_any x y w (by omega) (by omega) (by omega) (by omega)
theorem ok_QB {x y : Int} (h : okNum x y = true) : QB (ratOf x y) 3 := by
  have hb := ok_bounds h
  obtain ⟨e1, e2⟩ := ratOf_ok h
  unfold QB
  rw [e1, e2]
  exact ⟨rl_int (by omega) (by omega), rl_int (by omega) (by omega)⟩
def okAll (xs : List (Int × Int)) : Bool := xs.all fun p => okNum p.1 p.2
set_option maxHeartbeats 1000000 in
set_option maxRecDepth 10000 in
theorem refAll_any (A : Option Addr) (c : Nat) (xs : List (Int × Int)) (w : World) (hc : xs.length ≤ c) (hcm : c ≤ maxLen) (hr : RdN w A xs) (hx : ∀ p, p ∈ xs → Rng p.1 p.2) :
    Calls Tryz.prog 46 #[.slice A xs.length c] w fun e w' => e = .returned (.bool (okAll xs)) ∧ Up w w' := by
  have hlen := len_le hc hcm
  clear hcm hc
  go_enter Tryz.func46, Tryz.ntmps46
  go_wp2
  go_loopw [7] (fun i wr => ∃ k : Nat, k ≤ xs.length ∧ i = .int .i64 k ∧ Hid (okAll (xs.take k) = true) ∧ Up w wr) (fun i _ => xs.length - (intOf i).toNat)
  case atStart => exact ⟨0, by omega, rfl, rfl, Up.refl _⟩
  case round =>
    obtain ⟨k, hk, rfl, HK, hup⟩ := hrel
    have HU := Lib.hid hup
    have hrA := hr.up hup
    clear hup
    by_cases hkl : k < xs.length
    · obtain ⟨b, off, rfl, hbb, hcell⟩ := hrA.at_ hkl
      have hR := hx xs[k] (List.getElem_mem hkl)
      obtain ⟨x, hxx⟩ : ∃ x, x = xs[k].1 := ⟨_, rfl⟩
      obtain ⟨y, hyy⟩ : ∃ y, y = xs[k].2 := ⟨_, rfl⟩
      rw [← hxx, ← hyy] at hcell hR
      obtain ⟨c0, c1⟩ := hcell
      have HV := Lib.hid (fun W => refValid_any x y W hR.1 hR.2.1 hR.2.2.1 hR.2.2.2)
      rw [refOk_eq] at HV
      have HNEXT : Hid (okAll (xs.take (k + 1)) = okNum x y) := by
        unfold Hid
        rw [hxx, hyy]
        have := HK.out
        unfold okAll at this ⊢
        rw [List.take_succ_eq_append_getElem hkl, List.all_append, this]
        simp
      have HFALSE : Hid (okNum x y = false → okAll xs = false) := Lib.hid (fun h => by
        rw [hxx, hyy] at h
        unfold okAll
        rw [List.all_eq_false]
        exact ⟨xs[k], List.getElem_mem hkl, by simp [h]⟩)
      clear hxx hyy hR hrA HK
      go_wp2_with fail
      have HUA := Lib.hid (Up.alloc wr (.cells #[.int .i64 x, .int .i64 y] 55))
      refine Calls.mono (HV.out _) ?_
      rintro e w1 ⟨rfl, hu1⟩
      have HU1 := Lib.hid hu1
      clear hu1 c0 c1 hbb hr
      rcases hv : okNum x y with _ | _
      · have HA := Lib.hid (HFALSE.out hv)
        clear HNEXT HFALSE hv
        go_wp2
        go_ret
        exact ⟨by rw [HA.out]; rfl, by (repeat (first | exact Below.refl _ _ | exact Hid.out (by assumption) | refine Up.trans ?_ (Up.drew _) | refine Up.trans ?_ (Up.drewN _ _) | refine Up.trans ?_ (Up.alloc _ _) | refine Up.trans ?_ (Hid.out (by assumption))))⟩
      · rw [hv] at HNEXT
        clear HFALSE hv
        go_wp2_with fail
        go_roundw
        case rel => exact ⟨k + 1, hkl, by simp, HNEXT, by (repeat (first | exact Below.refl _ _ | exact Hid.out (by assumption) | refine Up.trans ?_ (Up.drew _) | refine Up.trans ?_ (Up.drewN _ _) | refine Up.trans ?_ (Up.alloc _ _) | refine Up.trans ?_ (Hid.out (by assumption))))⟩
        case measure => simp [intOf]; omega
    · have HE : Hid (okAll xs = true) := by
        have := HK.out
        rw [List.take_of_length_le (by omega)] at this
        exact this
      clear HK
      go_wp2
      go_ret
      exact ⟨by rw [HE.out]; rfl, HU.out⟩
theorem int_divInt (n : Int) : (n : Rat) = Rat.divInt n 1 := (Rat.num_divInt_den (n : Rat)).symm
theorem ratOf_one (n : Int) : ratOf n 1 = (n : Rat) := by
  unfold ratOf; exact (int_divInt n).symm
set_option maxHeartbeats 1000000 in
set_option maxRecDepth 10000 in
theorem numAllValid_any (A : Option Addr) (c : Nat) (xs : List (Int × Int)) (w : World) (hc : xs.length ≤ c) (hcm : c ≤ maxLen) (hr : RdN w A xs) (hx : ∀ p, p ∈ xs → Rng p.1 p.2) (ht : Tab w) :
    Calls Tryz.prog 82 #[.slice A xs.length c] w fun e w' => e = .returned (.bool (okAll xs)) ∧ Up w w' := by
  have hlen := len_le hc hcm
  clear hcm hc
  go_enter Tryz.func82, Tryz.ntmps82
  go_wp2
  go_loopw [7] (fun i wr => ∃ k : Nat, k ≤ xs.length ∧ i = .int .i64 k ∧ Hid (okAll (xs.take k) = true) ∧ Up w wr) (fun i _ => xs.length - (intOf i).toNat)
  case atStart => exact ⟨0, by omega, rfl, rfl, Up.refl _⟩
  case round =>
    obtain ⟨k, hk, rfl, HK, hup⟩ := hrel
    have HU := Lib.hid hup
    have hrA := hr.up hup
    clear hup
    by_cases hkl : k < xs.length
    · obtain ⟨b, off, rfl, hbb, hcell⟩ := hrA.at_ hkl
      have hR := hx xs[k] (List.getElem_mem hkl)
      obtain ⟨x, hxx⟩ : ∃ x, x = xs[k].1 := ⟨_, rfl⟩
      obtain ⟨y, hyy⟩ : ∃ y, y = xs[k].2 := ⟨_, rfl⟩
      rw [← hxx, ← hyy] at hcell hR
      obtain ⟨c0, c1⟩ := hcell
      have HV := Lib.hid (fun W (hu : Up w W) => valid_any x y W hR.1 hR.2.1 hR.2.2.1 hR.2.2.2 (ht.up hu))
      have HNEXT : Hid (okAll (xs.take (k + 1)) = okNum x y) := by
        unfold Hid
        rw [hxx, hyy]
        have := HK.out
        unfold okAll at this ⊢
        rw [List.take_succ_eq_append_getElem hkl, List.all_append, this]
        simp
      have HFALSE : Hid (okNum x y = false → okAll xs = false) := Lib.hid (fun h => by
        rw [hxx, hyy] at h
        unfold okAll
        rw [List.all_eq_false]
        exact ⟨xs[k], List.getElem_mem hkl, by simp [h]⟩)
      clear hxx hyy hR hrA HK
      go_wp2_with fail
      have HUA := Lib.hid (Up.alloc wr (.cells #[.int .i64 x, .int .i64 y] 55))
      refine Calls.mono (HV.out _ (by (repeat (first | exact Below.refl _ _ | exact Hid.out (by assumption) | refine Up.trans ?_ (Up.drew _) | refine Up.trans ?_ (Up.drewN _ _) | refine Up.trans ?_ (Up.alloc _ _) | refine Up.trans ?_ (Hid.out (by assumption)))))) ?_
      rintro e w1 ⟨rfl, hu1⟩
      have HU1 := Lib.hid hu1
      clear hu1 c0 c1 hbb hr
      rcases hv : okNum x y with _ | _
      · have HA := Lib.hid (HFALSE.out hv)
        clear HNEXT HFALSE hv
        go_wp2
        go_ret
        exact ⟨by rw [HA.out]; rfl, by (repeat (first | exact Below.refl _ _ | exact Hid.out (by assumption) | refine Up.trans ?_ (Up.drew _) | refine Up.trans ?_ (Up.drewN _ _) | refine Up.trans ?_ (Up.alloc _ _) | refine Up.trans ?_ (Hid.out (by assumption))))⟩
      · rw [hv] at HNEXT
        clear HFALSE hv
        go_wp2_with fail
        go_roundw
        case rel => exact ⟨k + 1, hkl, by simp, HNEXT, by (repeat (first | exact Below.refl _ _ | exact Hid.out (by assumption) | refine Up.trans ?_ (Up.drew _) | refine Up.trans ?_ (Up.drewN _ _) | refine Up.trans ?_ (Up.alloc _ _) | refine Up.trans ?_ (Hid.out (by assumption))))⟩
        case measure => simp [intOf]; omega
    · have HE : Hid (okAll xs = true) := by
        have := HK.out
        rw [List.take_of_length_le (by omega)] at this
        exact this
      clear HK
      go_wp2
      go_ret
      exact ⟨by rw [HE.out]; rfl, HU.out⟩
theorem FB.mul {a b : Rat} {n m k : Nat} (ha : FB a n) (hb : FB b m) (hk : n + m ≤ k) : FB (a * b) k := by
  rw [rat_mul]
  exact FB.divInt (bl_mul ha.top hb.top hk) (bl_mul ha.low hb.low hk) (Int.mul_ne_zero (den_ne a) (den_ne b))
theorem ok_FB2 {x y : Int} (h : okNum x y = true) : FB (ratOf x y) 2 := by
  obtain ⟨h1, h2⟩ := ratOf_ok h
  have := ok_bounds h
  exact ⟨by rw [h1]; exact bl_small (by omega), by rw [h2]; exact bl_small (by omega)⟩
def dotQ : List (Int × Int) → List (Int × Int) → Rat
  | p :: ps, q :: qs => ratOf p.1 p.2 * ratOf q.1 q.2 + dotQ ps qs
  | _, _ => 0
theorem dotQ_append (l m l' m' : List (Int × Int)) (h : l.length = m.length) : dotQ (l ++ l') (m ++ m') = dotQ l m + dotQ l' m' := by
  induction l generalizing m with
  | nil =>
    cases m with
    | nil => simp [dotQ, Rat.zero_add]
    | cons q qs => simp at h
  | cons p ps ih =>
    cases m with
    | nil => simp at h
    | cons q qs =>
      simp only [List.length_cons, Nat.add_right_cancel_iff] at h
      simp only [List.cons_append, dotQ, ih qs h, Rat.add_assoc]
theorem dotQ_split (l m : List (Int × Int)) (k : Nat) (h : l.length = m.length) : dotQ (l.take k) (m.take k) + dotQ (l.drop k) (m.drop k) = dotQ l m := by
  rw [← dotQ_append _ _ _ _ (by rw [List.length_take, List.length_take, h]), List.take_append_drop, List.take_append_drop]
theorem okAll_take {l : List (Int × Int)} (k : Nat) (h : okAll l = true) : okAll (l.take k) = true := by
  unfold okAll at *
  rw [List.all_eq_true] at *
  exact fun p hp => h p (List.mem_of_mem_take hp)
theorem okAll_drop {l : List (Int × Int)} (k : Nat) (h : okAll l = true) : okAll (l.drop k) = true := by
  unfold okAll at *
  rw [List.all_eq_true] at *
  exact fun p hp => h p (List.mem_of_mem_drop hp)
theorem okAll_get {l : List (Int × Int)} (h : okAll l = true) {k : Nat} (hk : k < l.length) : okNum l[k].1 l[k].2 = true := by
  unfold okAll at h
  rw [List.all_eq_true] at h
  exact h _ (List.getElem_mem hk)
theorem dotQ_FB (l m : List (Int × Int)) (h : l.length = m.length) (hl : okAll l = true) (hm : okAll m = true) : FB (dotQ l m) (8 * l.length + 1) := by
  induction l generalizing m with
  | nil =>
    cases m with
    | nil => exact FB.zero.mono (by omega)
    | cons q qs => simp at h
  | cons p ps ih =>
    cases m with
    | nil => simp at h
    | cons q qs =>
      have h1 := okAll_get hl (k := 0) (by simp)
      have h2 := okAll_get hm (k := 0) (by simp)
      simp only [List.length_cons, Nat.add_right_cancel_iff] at h
      have := ih qs h (okAll_drop 1 hl) (okAll_drop 1 hm)
      exact ((ok_FB2 h1).mul (ok_FB2 h2) (Nat.le_refl _)).add this (by simp only [List.length_cons]; omega)
theorem one_facts {w : World} {b off : Nat} {x y : Int} (h : RdN w (some ⟨b, off, none⟩) [(x, y)]) : w.cell? ⟨b, off, none⟩ = some (.int .i64 x) ∧ w.cell? ⟨b, off + 1, none⟩ = some (.int .i64 y) ∧ b < w.heap.size := by
  obtain ⟨b', off', hA, hb, hc⟩ := h (by simp)
  cases hA
  have := hc 0 (by simp)
  exact ⟨this.1, this.2, hb⟩
set_option maxHeartbeats 4000000 in
set_option maxRecDepth 10000 in
theorem products_two (b b2 off off2 n h c d : Nat) (qa qb q : Rat) (w : World) (hc : n ≤ c) (hd : n ≤ d) (hn : n ≤ 1000000) (h2 : 2 ≤ n) (hh : h = n / 2)
    (HR1 : Hid (∀ W, Up w W → Calls Tryz.prog 84 #[.slice (some ⟨b, off, none⟩) h c, .slice (some ⟨b2, off2, none⟩) h d] W fun e w' => ∃ v, e = .returned v ∧ FV w' v qa ∧ Up W w'))
    (HR2 : Hid (∀ W, Up w W → Calls Tryz.prog 84 #[.slice (some ⟨b, off + h * 2, none⟩) (n - h) (c - h), .slice (some ⟨b2, off2 + h * 2, none⟩) (n - h) (d - h)] W fun e w' => ∃ v, e = .returned v ∧ FV w' v qb ∧ Up W w'))
    (HP : Hid (∀ W u1 u2, Up w W → FV W u1 qa → FV W u2 qb → Calls Tryz.prog 121 #[u1, u2] W fun e w' => ∃ v, e = .returned v ∧ FV w' v q ∧ Up W w')) :
    Calls Tryz.prog 84 #[.slice (some ⟨b, off, none⟩) n c, .slice (some ⟨b2, off2, none⟩) n d] w fun e w' => ∃ v, e = .returned v ∧ FV w' v q ∧ Up w w' := by
  have hn0 : ((n : Int) == 0) = false := by simp; omega
  have hn1 : ((n : Int) == 1) = false := by simp; omega
  have hq : (n : Int).tdiv 2 = (h : Int) := by rw [Int.tdiv_eq_ediv_of_nonneg (by omega)]; omega
  have hln : h ≤ n := by omega
  have hlc : h ≤ c := by omega
  have hld : h ≤ d := by omega
  have i0 : (0 : Int) ≤ (h : Int) := by omega
  have i1 : (h : Int) ≤ (n : Int) := by omega
  have i2 : (h : Int) ≤ (c : Int) := by omega
  have i3 : (h : Int) ≤ (d : Int) := by omega
  have i4 : (n : Int) ≤ (c : Int) := by omega
  have i5 : (n : Int) ≤ (d : Int) := by omega
  have hq2 : (n : Int) / 2 = (h : Int) := by omega
  have i6 : (0 : Int) ≤ (n : Int) := by omega
  have iw2 : IntKind.i64.wrap (h : Int) = (h : Int) := IntWalk.i64_in _ (by omega)
  have iw3 : IntKind.i64.wrap ((n : Int) / 2) = (h : Int) := by rw [hq2]; exact iw2
  have iw4 : wrap64 (h : Int) = (h : Int) := by unfold wrap64; omega
  have iw : IntKind.i64.wrap ((n : Int).tdiv 2) = (h : Int) := by rw [hq]; exact IntWalk.i64_in _ (by omega)
  clear hh
  go_enter Tryz.func84, Tryz.ntmps84
  go_upto_region 3 with fail
  have HU := Lib.hid (Up.alloc w (.cells #[.int .i64 0, .slice none 0 0, .int .i64 0, .slice none 0 0] 110))
  have HRS := Lib.hid (Res4.new w)
  generalize w.alloc (.cells #[.int .i64 0, .slice none 0 0, .int .i64 0, .slice none 0 0] 110) = wB at *
  go_region_held3 (fun _ => True) (trivial)
    ((first
      | (go_at_call 121
         refine Calls.mono (HP.out _ _ _ (by (repeat (first | exact Below.refl _ _ | exact Hid.out (by assumption) | refine Up.trans ?_ (Up.drew _) | refine Up.trans ?_ (Up.drewN _ _) | refine Up.trans ?_ (Up.alloc _ _) | refine Up.trans ?_ (Hid.out (by assumption))))) (HVw1.out.up (by (repeat (first | exact Below.refl _ _ | exact Hid.out (by assumption) | refine Up.trans ?_ (Up.drew _) | refine Up.trans ?_ (Up.drewN _ _) | refine Up.trans ?_ (Up.alloc _ _) | refine Up.trans ?_ (Hid.out (by assumption)))))) (HVw2.out.up (by (repeat (first | exact Below.refl _ _ | exact Hid.out (by assumption) | refine Up.trans ?_ (Up.drew _) | refine Up.trans ?_ (Up.drewN _ _) | refine Up.trans ?_ (Up.alloc _ _) | refine Up.trans ?_ (Hid.out (by assumption))))))) ?_
         rintro e w3 ⟨v, rfl, hv, hu⟩
         have HU3 := Lib.hid hu
         have HV3 := Lib.hid hv
         obtain ⟨s5, A5, n5, c5, t5, F5, m5, k5, rfl, -, -⟩ := hv
         clear hu
         have HRS8 := Lib.hid (HRS.out.up (w' := w3) (by (repeat (first | exact Below.refl _ _ | exact Hid.out (by assumption) | refine Up.trans ?_ (Up.drew _) | refine Up.trans ?_ (Up.drewN _ _) | refine Up.trans ?_ (Up.alloc _ _) | refine Up.trans ?_ (Hid.out (by assumption))))))
         obtain ⟨r0, r1, r2, r3, f0', f1', f2', f3'⟩ := HRS8.out.facts)
      | (have HGUARD := HVw1; go_at_call 84
         refine Calls.mono (HR2.out _ (by (repeat (first | exact Below.refl _ _ | exact Hid.out (by assumption) | refine Up.trans ?_ (Up.drew _) | refine Up.trans ?_ (Up.drewN _ _) | refine Up.trans ?_ (Up.alloc _ _) | refine Up.trans ?_ (Hid.out (by assumption)))))) ?_
         rintro e w2 ⟨v, rfl, hv, hu⟩
         have HU2 := Lib.hid hu
         have HVw2 := Lib.hid hv
         clear hu hv)
      | (go_at_call 84
         refine Calls.mono (HR1.out _ (by (repeat (first | exact Below.refl _ _ | exact Hid.out (by assumption) | refine Up.trans ?_ (Up.drew _) | refine Up.trans ?_ (Up.drewN _ _) | refine Up.trans ?_ (Up.alloc _ _) | refine Up.trans ?_ (Hid.out (by assumption)))))) ?_
         rintro e w1 ⟨v, rfl, hv, hu⟩
         have HU1 := Lib.hid hu
         have HVw1 := Lib.hid hv
         clear hu hv)))
  have hq4 := HRS8.out.stored (.int .i64 s5) (.slice A5 n5 c5) (.int .i64 t5) (.slice F5 m5 k5)
  have HVF : Hid (FV (put4 w3 w.heap.size (.int .i64 s5) (.slice A5 n5 c5) (.int .i64 t5) (.slice F5 m5 k5)) (.agg #[.int .i64 s5, .slice A5 n5 c5, .int .i64 t5, .slice F5 m5 k5]) q) := Lib.hid (by
    obtain ⟨s6, A6, n6, c6, t6, F6, m6, k6, he, p1, p2⟩ := HV3.out
    exact ⟨s6, A6, n6, c6, t6, F6, m6, k6, he, p1.put4 HRS8.out _ _ _ _, p2.put4 HRS8.out _ _ _ _⟩)
  have HUF := Lib.hid ((show Up w w3 by (repeat (first | exact Below.refl _ _ | exact Hid.out (by assumption) | refine Up.trans ?_ (Up.drew _) | refine Up.trans ?_ (Up.drewN _ _) | refine Up.trans ?_ (Up.alloc _ _) | refine Up.trans ?_ (Hid.out (by assumption))))).put4 (show w.heap.size ≤ w.heap.size by omega) (.int .i64 s5) (.slice A5 n5 c5) (.int .i64 t5) (.slice F5 m5 k5))
  unfold put4 at hq4 HVF HUF
  obtain ⟨hq0, hq1, hq5, hq6⟩ := hq4
  go_wp2
  refine bodyPost_ret (by simp [results, Tryz.results84, go_sem, hq0, hq1, hq5, hq6]; try rfl) rfl ?_
  exact ⟨_, rfl, HVF.out, HUF.out⟩
theorem frac_done {w w3 : World} {g : Nat} {s5 : Int} {A5 : Option Addr} {n5 c5 : Nat} {t5 : Int} {F5 : Option Addr} {m5 k5 : Nat} {q : Rat} (hv : FV w3 (.agg #[.int .i64 s5, .slice A5 n5 c5, .int .i64 t5, .slice F5 m5 k5]) q) (hr : Res4 w3 g) (hu : Up w w3) (hg : w.heap.size ≤ g) :
    ((put4 w3 g (.int .i64 s5) (.slice A5 n5 c5) (.int .i64 t5) (.slice F5 m5 k5)).cell? ⟨g, 0, none⟩ = some (.int .i64 s5) ∧ (put4 w3 g (.int .i64 s5) (.slice A5 n5 c5) (.int .i64 t5) (.slice F5 m5 k5)).cell? ⟨g, 1, none⟩ = some (.slice A5 n5 c5) ∧
      (put4 w3 g (.int .i64 s5) (.slice A5 n5 c5) (.int .i64 t5) (.slice F5 m5 k5)).cell? ⟨g, 2, none⟩ = some (.int .i64 t5) ∧ (put4 w3 g (.int .i64 s5) (.slice A5 n5 c5) (.int .i64 t5) (.slice F5 m5 k5)).cell? ⟨g, 3, none⟩ = some (.slice F5 m5 k5)) ∧
    FV (put4 w3 g (.int .i64 s5) (.slice A5 n5 c5) (.int .i64 t5) (.slice F5 m5 k5)) (.agg #[.int .i64 s5, .slice A5 n5 c5, .int .i64 t5, .slice F5 m5 k5]) q ∧ Up w (put4 w3 g (.int .i64 s5) (.slice A5 n5 c5) (.int .i64 t5) (.slice F5 m5 k5)) := by
  refine ⟨hr.stored _ _ _ _, ?_, hu.put4 hg _ _ _ _⟩
  obtain ⟨s6, A6, n6, c6, t6, F6, m6, k6, he, p1, p2⟩ := hv
  exact ⟨s6, A6, n6, c6, t6, F6, m6, k6, he, p1.put4 hr _ _ _ _, p2.put4 hr _ _ _ _⟩
set_option maxHeartbeats 1000000 in
set_option maxRecDepth 10000 in
theorem products_zero (A B : Option Addr) (c d : Nat) (w : World) :
    Calls Tryz.prog 84 #[.slice A 0 c, .slice B 0 d] w fun e w' => ∃ v, e = .returned v ∧ FV w' v 0 ∧ Up w w' := by
  have HO := Lib.hid (fun W => fracOf_any 0 1 0 W rfl rfl (by omega) (by omega) (by omega) (by omega))
  go_enter Tryz.func84, Tryz.ntmps84
  go_wp2_with fail
  have HU := Lib.hid (Up.alloc w (.cells #[.int .i64 0, .slice none 0 0, .int .i64 0, .slice none 0 0] 110))
  have HRS := Lib.hid (Res4.new w)
  generalize w.alloc (.cells #[.int .i64 0, .slice none 0 0, .int .i64 0, .slice none 0 0] 110) = wB at *
  refine Calls.mono (HO.out _) ?_
  rintro e w3 ⟨v, rfl, hv, hu⟩
  have HU3 := Lib.hid hu
  have HV3 := Lib.hid hv
  obtain ⟨s5, A5, n5, c5, t5, F5, m5, k5, rfl, -, -⟩ := hv
  clear hu
  have HRS8 := Lib.hid (HRS.out.up (w' := w3) (by (repeat (first | exact Below.refl _ _ | exact Hid.out (by assumption) | refine Up.trans ?_ (Up.drew _) | refine Up.trans ?_ (Up.drewN _ _) | refine Up.trans ?_ (Up.alloc _ _) | refine Up.trans ?_ (Hid.out (by assumption))))))
  obtain ⟨r0, r1, r2, r3, f0', f1', f2', f3'⟩ := HRS8.out.facts
  obtain ⟨hq4, hvf, huf⟩ := frac_done HV3.out HRS8.out (show Up w w3 by (repeat (first | exact Below.refl _ _ | exact Hid.out (by assumption) | refine Up.trans ?_ (Up.drew _) | refine Up.trans ?_ (Up.drewN _ _) | refine Up.trans ?_ (Up.alloc _ _) | refine Up.trans ?_ (Hid.out (by assumption))))) (Nat.le_refl _)
  have HVF := Lib.hid hvf
  have HUF := Lib.hid huf
  clear hvf huf
  unfold put4 at hq4 HVF HUF
  obtain ⟨hq0, hq1, hq5, hq6⟩ := hq4
  go_wp2
  refine bodyPost_ret (by simp [results, Tryz.results84, go_sem, hq0, hq1, hq5, hq6]; try rfl) rfl ?_
  exact ⟨_, rfl, HVF.out, HUF.out⟩
set_option maxHeartbeats 4000000 in
set_option maxRecDepth 10000 in
theorem products_one (b b2 off off2 c d : Nat) (x1 y1 x2 y2 : Int) (w : World) (hk1 : okNum x1 y1 = true) (hk2 : okNum x2 y2 = true) (hr : RdN w (some ⟨b, off, none⟩) [(x1, y1)]) (hs : RdN w (some ⟨b2, off2, none⟩) [(x2, y2)]) (ht : Tab w) :
    Calls Tryz.prog 84 #[.slice (some ⟨b, off, none⟩) 1 c, .slice (some ⟨b2, off2, none⟩) 1 d] w fun e w' => ∃ v, e = .returned v ∧ FV w' v (ratOf x1 y1 * ratOf x2 y2) ∧ Up w w' := by
  have q1 := ok_bounds hk1
  have q2 := ok_bounds hk2
  obtain ⟨e1, e2⟩ := ratOf_ok hk1
  obtain ⟨e3, e4⟩ := ratOf_ok hk2
  have f1 := ok_FB hk1
  have f2 := ok_FB hk2
  have HO1 := Lib.hid (fun W => fracOf_any x1 y1 (ratOf x1 y1) W e1 e2 (by omega) (by omega) (by omega) (by omega))
  have HO2 := Lib.hid (fun W => fracOf_any x2 y2 (ratOf x2 y2) W e3 e4 (by omega) (by omega) (by omega) (by omega))
  have HP := Lib.hid (fun W u1 u2 (hu : Up w W) (k1 : FV W u1 (ratOf x1 y1)) (k2 : FV W u2 (ratOf x2 y2)) => fracTimes_any u1 u2 _ _ W k1 k2 f1 f2 (ht.up hu))
  generalize ratOf x1 y1 * ratOf x2 y2 = q at *
  generalize ratOf x1 y1 = qa at *
  generalize ratOf x2 y2 = qb at *
  clear q1 q2 e1 e2 e3 e4 f1 f2 hk1 hk2 ht
  have hbl := (one_facts hr).2.2
  have hbl2 := (one_facts hs).2.2
  go_enter Tryz.func84, Tryz.ntmps84
  go_upto_region 7 with fail
  have HU := Lib.hid (Up.alloc w (.cells #[.int .i64 0, .slice none 0 0, .int .i64 0, .slice none 0 0] 110))
  have HRS := Lib.hid (Res4.new w)
  generalize w.alloc (.cells #[.int .i64 0, .slice none 0 0, .int .i64 0, .slice none 0 0] 110) = wB at *
  have HRA := Lib.hid (hr.up (w' := wB) HU.out)
  have HRB := Lib.hid (hs.up (w' := wB) HU.out)
  clear hr hs
  obtain ⟨a0, a1, la⟩ := one_facts HRA.out
  obtain ⟨b0, b1, lb⟩ := one_facts HRB.out
  have hne1 : (b = w.heap.size) = False := eq_false (by omega)
  have hne2 : (w.heap.size = b) = False := eq_false (by omega)
  have hne3 : (b2 = w.heap.size) = False := eq_false (by omega)
  have hne4 : (w.heap.size = b2) = False := eq_false (by omega)
  clear hbl hbl2
  go_region_held3 (fun w' => w'.cell? ⟨b, off, none⟩ = some (.int .i64 x1) ∧ w'.cell? ⟨b, off + 1, none⟩ = some (.int .i64 y1) ∧ w'.cell? ⟨b2, off2, none⟩ = some (.int .i64 x2) ∧ w'.cell? ⟨b2, off2 + 1, none⟩ = some (.int .i64 y2)) (go_keep)
    ((first
      | (go_at_call 120
         refine Calls.mono (HP.out _ _ _ (by (repeat (first | exact Below.refl _ _ | exact Hid.out (by assumption) | refine Up.trans ?_ (Up.drew _) | refine Up.trans ?_ (Up.drewN _ _) | refine Up.trans ?_ (Up.alloc _ _) | refine Up.trans ?_ (Hid.out (by assumption))))) (HVw1.out.up (by (repeat (first | exact Below.refl _ _ | exact Hid.out (by assumption) | refine Up.trans ?_ (Up.drew _) | refine Up.trans ?_ (Up.drewN _ _) | refine Up.trans ?_ (Up.alloc _ _) | refine Up.trans ?_ (Hid.out (by assumption)))))) (HVw2.out.up (by (repeat (first | exact Below.refl _ _ | exact Hid.out (by assumption) | refine Up.trans ?_ (Up.drew _) | refine Up.trans ?_ (Up.drewN _ _) | refine Up.trans ?_ (Up.alloc _ _) | refine Up.trans ?_ (Hid.out (by assumption))))))) ?_
         rintro e w3 ⟨v, rfl, hv, hu⟩
         have HU3 := Lib.hid hu
         have HV3 := Lib.hid hv
         obtain ⟨s5, A5, n5, c5, t5, F5, m5, k5, rfl, -, -⟩ := hv
         clear hu
         have HRS8 := Lib.hid (HRS.out.up (w' := w3) (by (repeat (first | exact Below.refl _ _ | exact Hid.out (by assumption) | refine Up.trans ?_ (Up.drew _) | refine Up.trans ?_ (Up.drewN _ _) | refine Up.trans ?_ (Up.alloc _ _) | refine Up.trans ?_ (Hid.out (by assumption))))))
         obtain ⟨r0, r1, r2, r3, f0', f1', f2', f3'⟩ := HRS8.out.facts
         obtain ⟨a0, a1, la⟩ := one_facts (HRA.out.up (w' := w3) (by (repeat (first | exact Below.refl _ _ | exact Hid.out (by assumption) | refine Up.trans ?_ (Up.drew _) | refine Up.trans ?_ (Up.drewN _ _) | refine Up.trans ?_ (Up.alloc _ _) | refine Up.trans ?_ (Hid.out (by assumption))))))
         obtain ⟨b0, b1, lb⟩ := one_facts (HRB.out.up (w' := w3) (by (repeat (first | exact Below.refl _ _ | exact Hid.out (by assumption) | refine Up.trans ?_ (Up.drew _) | refine Up.trans ?_ (Up.drewN _ _) | refine Up.trans ?_ (Up.alloc _ _) | refine Up.trans ?_ (Hid.out (by assumption)))))))
      | (have HGUARD := HVw1; go_at_call 119
         refine Calls.mono (HO2.out _) ?_
         rintro e w2 ⟨v, rfl, hv, hu⟩
         have HU2 := Lib.hid hu
         have HVw2 := Lib.hid hv
         clear hu hv
         obtain ⟨a0, a1, la⟩ := one_facts (HRA.out.up (w' := w2) (by (repeat (first | exact Below.refl _ _ | exact Hid.out (by assumption) | refine Up.trans ?_ (Up.drew _) | refine Up.trans ?_ (Up.drewN _ _) | refine Up.trans ?_ (Up.alloc _ _) | refine Up.trans ?_ (Hid.out (by assumption))))))
         obtain ⟨b0, b1, lb⟩ := one_facts (HRB.out.up (w' := w2) (by (repeat (first | exact Below.refl _ _ | exact Hid.out (by assumption) | refine Up.trans ?_ (Up.drew _) | refine Up.trans ?_ (Up.drewN _ _) | refine Up.trans ?_ (Up.alloc _ _) | refine Up.trans ?_ (Hid.out (by assumption)))))))
      | (go_at_call 119
         refine Calls.mono (HO1.out _) ?_
         rintro e w1 ⟨v, rfl, hv, hu⟩
         have HU1 := Lib.hid hu
         have HVw1 := Lib.hid hv
         clear hu hv
         obtain ⟨a0, a1, la⟩ := one_facts (HRA.out.up (w' := w1) (by (repeat (first | exact Below.refl _ _ | exact Hid.out (by assumption) | refine Up.trans ?_ (Up.drew _) | refine Up.trans ?_ (Up.drewN _ _) | refine Up.trans ?_ (Up.alloc _ _) | refine Up.trans ?_ (Hid.out (by assumption))))))
         obtain ⟨b0, b1, lb⟩ := one_facts (HRB.out.up (w' := w1) (by (repeat (first | exact Below.refl _ _ | exact Hid.out (by assumption) | refine Up.trans ?_ (Up.drew _) | refine Up.trans ?_ (Up.drewN _ _) | refine Up.trans ?_ (Up.alloc _ _) | refine Up.trans ?_ (Hid.out (by assumption)))))))))
  obtain ⟨hq4, hvf, huf⟩ := frac_done HV3.out HRS8.out (show Up w w3 by (repeat (first | exact Below.refl _ _ | exact Hid.out (by assumption) | refine Up.trans ?_ (Up.drew _) | refine Up.trans ?_ (Up.drewN _ _) | refine Up.trans ?_ (Up.alloc _ _) | refine Up.trans ?_ (Hid.out (by assumption))))) (Nat.le_refl _)
  have HVF := Lib.hid hvf
  have HUF := Lib.hid huf
  clear hvf huf
  unfold put4 at hq4 HVF HUF
  obtain ⟨hq0, hq1, hq5, hq6⟩ := hq4
  go_wp2
  refine bodyPost_ret (by simp [results, Tryz.results84, go_sem, hq0, hq1, hq5, hq6]; try rfl) rfl ?_
  exact ⟨_, rfl, HVF.out, HUF.out⟩
theorem products_any (N : Nat) : ∀ (A B : Option Addr) (c d : Nat) (l m : List (Int × Int)) (w : World), l.length ≤ N → l.length = m.length → l.length ≤ c → l.length ≤ d → l.length ≤ 1000000 → RdN w A l → RdN w B m → okAll l = true → okAll m = true → Tab w →
    Calls Tryz.prog 84 #[.slice A l.length c, .slice B l.length d] w fun e w' => ∃ v, e = .returned v ∧ FV w' v (dotQ l m) ∧ Up w w' := by
  induction N with
  | zero =>
    intro A B c d l m w hN hlm hc hd hn hr hs hl hm ht
    cases l with
    | nil => cases m with
      | nil => exact products_zero A B c d w
      | cons q qs => simp at hlm
    | cons p ps => simp at hN
  | succ N ih =>
    intro A B c d l m w hN hlm hc hd hn hr hs hl hm ht
    rcases Nat.lt_or_ge l.length 2 with h2 | h2
    · match l, m, hlm with
      | [], [], _ => exact products_zero A B c d w
      | [p], [q], _ =>
        obtain ⟨b, off, rfl, -⟩ := hr (by simp)
        obtain ⟨b2, off2, rfl, -⟩ := hs (by simp)
        have h := products_one b b2 off off2 c d p.1 p.2 q.1 q.2 w (okAll_get hl (k := 0) (by simp)) (okAll_get hm (k := 0) (by simp)) hr hs ht
        have e : dotQ [p] [q] = ratOf p.1 p.2 * ratOf q.1 q.2 := by simp [dotQ, Rat.add_zero]
        rw [e]
        exact h
      | _ :: _ :: _, _, _ => simp only [List.length_cons] at h2; omega
    · obtain ⟨b, off, rfl, -⟩ := hr (by intro e; subst e; simp at h2)
      obtain ⟨b2, off2, rfl, -⟩ := hs (by intro e; rw [e] at hlm; simp only [List.length_nil] at hlm; omega)
      have hsp := dotQ_split l m (l.length / 2) hlm
      have ht1 : (l.take (l.length / 2)).length = l.length / 2 := by rw [List.length_take]; omega
      have ht2 : (m.take (l.length / 2)).length = l.length / 2 := by rw [List.length_take]; omega
      have hd1 : (l.drop (l.length / 2)).length = l.length - l.length / 2 := by rw [List.length_drop]
      have hd2 : (m.drop (l.length / 2)).length = l.length - l.length / 2 := by rw [List.length_drop, hlm]
      refine products_two b b2 off off2 l.length (l.length / 2) c d (dotQ (l.take (l.length / 2)) (m.take (l.length / 2))) (dotQ (l.drop (l.length / 2)) (m.drop (l.length / 2))) (dotQ l m) w hc hd hn h2 rfl
        (Lib.hid fun W hu => ?_) (Lib.hid fun W hu => ?_) (Lib.hid fun W u1 u2 hu k1 k2 => ?_)
      · have h := ih (some ⟨b, off, none⟩) (some ⟨b2, off2, none⟩) c d (l.take (l.length / 2)) (m.take (l.length / 2)) W (by rw [ht1]; omega) (by rw [ht1, ht2]) (by rw [ht1]; omega) (by rw [ht1]; omega) (by rw [ht1]; omega) ((hr.up hu).take _) ((hs.up hu).take _) (okAll_take _ hl) (okAll_take _ hm) (ht.up hu)
        rw [ht1] at h
        exact h
      · have h := ih (some ⟨b, off + l.length / 2 * 2, none⟩) (some ⟨b2, off2 + l.length / 2 * 2, none⟩) (c - l.length / 2) (d - l.length / 2) (l.drop (l.length / 2)) (m.drop (l.length / 2)) W (by rw [hd1]; omega) (by rw [hd1, hd2]) (by rw [hd1]; omega) (by rw [hd1]; omega) (by rw [hd1]; omega) ((hr.up hu).drop _) ((hs.up hu).drop _) (okAll_drop _ hl) (okAll_drop _ hm) (ht.up hu)
        rw [hd1] at h
        exact h
      · have b1 := dotQ_FB (l.take (l.length / 2)) (m.take (l.length / 2)) (by rw [ht1, ht2]) (okAll_take _ hl) (okAll_take _ hm)
        have b2 := dotQ_FB (l.drop (l.length / 2)) (m.drop (l.length / 2)) (by rw [hd1, hd2]) (okAll_drop _ hl) (okAll_drop _ hm)
        rw [ht1] at b1
        rw [hd1] at b2
        rw [← hsp]
        exact fracPlus_any u1 u2 _ _ W k1 k2 (b1.mono (by omega)) (b2.mono (by omega)) (ht.up hu)
set_option maxHeartbeats 2000000 in
set_option maxRecDepth 10000 in
theorem numDot_ok (A B : Option Addr) (c d n : Nat) (q : Rat) (X Y E : Int) (w : World)
    (HV1 : Hid (∀ W, Up w W → Calls Tryz.prog 82 #[.slice A n c] W fun e w' => e = .returned (.bool true) ∧ Up W w'))
    (HV2 : Hid (∀ W, Up w W → Calls Tryz.prog 82 #[.slice B n d] W fun e w' => e = .returned (.bool true) ∧ Up W w'))
    (HP : Hid (∀ W, Up w W → Calls Tryz.prog 84 #[.slice A n c, .slice B n d] W fun e w' => ∃ v, e = .returned v ∧ FV w' v q ∧ Up W w'))
    (HL : Hid (∀ W u, FV W u q → Calls Tryz.prog 83 #[u] W fun e w' => e = .returned (.tuple #[.agg #[.int .i64 X, .int .i64 Y], .int .i64 E]) ∧ Up W w')) :
    Calls Tryz.prog 43 #[.slice A n c, .slice B n d] w fun e w' => e = .returned (.tuple #[.agg #[.int .i64 X, .int .i64 Y], .int .i64 E]) ∧ Up w w' := by
  go_enter Tryz.func43, Tryz.ntmps43
  go_wp2_with fail
  have HR := Lib.hid (CellN.new w 0 0)
  have HU := Lib.hid (Up.alloc w (.cells #[.int .i64 0, .int .i64 0] 55))
  generalize w.alloc (.cells #[.int .i64 0, .int .i64 0] 55) = wB at *
  refine Calls.mono (HV1.out _ (by (repeat (first | exact Below.refl _ _ | exact Hid.out (by assumption) | refine Up.trans ?_ (Up.drew _) | refine Up.trans ?_ (Up.drewN _ _) | refine Up.trans ?_ (Up.alloc _ _) | refine Up.trans ?_ (Hid.out (by assumption)))))) ?_
  rintro e w1 ⟨rfl, hu⟩
  have HU1 := Lib.hid hu
  clear hu
  go_wp2_with fail
  refine Calls.mono (HV2.out _ (by (repeat (first | exact Below.refl _ _ | exact Hid.out (by assumption) | refine Up.trans ?_ (Up.drew _) | refine Up.trans ?_ (Up.drewN _ _) | refine Up.trans ?_ (Up.alloc _ _) | refine Up.trans ?_ (Hid.out (by assumption)))))) ?_
  rintro e w2 ⟨rfl, hu⟩
  have HU2 := Lib.hid hu
  clear hu
  go_wp2_with fail
  refine Calls.mono (HP.out _ (by (repeat (first | exact Below.refl _ _ | exact Hid.out (by assumption) | refine Up.trans ?_ (Up.drew _) | refine Up.trans ?_ (Up.drewN _ _) | refine Up.trans ?_ (Up.alloc _ _) | refine Up.trans ?_ (Hid.out (by assumption)))))) ?_
  rintro e w3 ⟨v, rfl, hv, hu⟩
  have HU3 := Lib.hid hu
  have HV3 := Lib.hid hv
  clear hu hv
  go_wp2_with fail
  refine Calls.mono (HL.out _ _ HV3.out) ?_
  rintro e w4 ⟨rfl, hu⟩
  have HU4 := Lib.hid hu
  clear hu
  have HR8 := Lib.hid (HR.out.up (w' := w4) (by (repeat (first | exact Below.refl _ _ | exact Hid.out (by assumption) | refine Up.trans ?_ (Up.drew _) | refine Up.trans ?_ (Up.drewN _ _) | refine Up.trans ?_ (Up.alloc _ _) | refine Up.trans ?_ (Hid.out (by assumption))))))
  obtain ⟨r0, r1, g0, g1, lr⟩ := HR8.out.facts
  have HFF := Lib.hid ((HR8.out.set X Y).facts)
  have HUF := Lib.hid ((show Up w w4 by (repeat (first | exact Below.refl _ _ | exact Hid.out (by assumption) | refine Up.trans ?_ (Up.drew _) | refine Up.trans ?_ (Up.drewN _ _) | refine Up.trans ?_ (Up.alloc _ _) | refine Up.trans ?_ (Hid.out (by assumption))))).stored (show w.heap.size ≤ w.heap.size by omega) (.int .i64 X) (.int .i64 Y))
  go_wp2
  obtain ⟨z0, z1, -, -, -⟩ := HFF.out
  refine bodyPost_ret (by simp [results, Tryz.results43, go_sem, z0, z1]; try rfl) rfl ?_
  exact ⟨rfl, HUF.out⟩
set_option maxHeartbeats 1000000 in
set_option maxRecDepth 10000 in
theorem linValidNums_any (A : Option Addr) (c : Nat) (xs : List (Int × Int)) (w : World) (hc : xs.length ≤ c) (hcm : c ≤ maxLen) (hr : RdN w A xs) (hx : ∀ p, p ∈ xs → Rng p.1 p.2) (ht : Tab w) :
    Calls Tryz.prog 41 #[.slice A xs.length c] w fun e w' => e = .returned (.bool (okAll xs)) ∧ Up w w' := by
  have hlen := len_le hc hcm
  clear hcm hc
  go_enter Tryz.func41, Tryz.ntmps41
  go_wp2
  go_loopw [7] (fun i wr => ∃ k : Nat, k ≤ xs.length ∧ i = .int .i64 k ∧ Hid (okAll (xs.take k) = true) ∧ Up w wr) (fun i _ => xs.length - (intOf i).toNat)
  case atStart => exact ⟨0, by omega, rfl, rfl, Up.refl _⟩
  case round =>
    obtain ⟨k, hk, rfl, HK, hup⟩ := hrel
    have HU := Lib.hid hup
    have hrA := hr.up hup
    clear hup
    by_cases hkl : k < xs.length
    · obtain ⟨b, off, rfl, hbb, hcell⟩ := hrA.at_ hkl
      have hR := hx xs[k] (List.getElem_mem hkl)
      obtain ⟨x, hxx⟩ : ∃ x, x = xs[k].1 := ⟨_, rfl⟩
      obtain ⟨y, hyy⟩ : ∃ y, y = xs[k].2 := ⟨_, rfl⟩
      rw [← hxx, ← hyy] at hcell hR
      obtain ⟨c0, c1⟩ := hcell
      have HV := Lib.hid (fun W (hu : Up w W) => valid_any x y W hR.1 hR.2.1 hR.2.2.1 hR.2.2.2 (ht.up hu))
      have HNEXT : Hid (okAll (xs.take (k + 1)) = okNum x y) := by
        unfold Hid
        rw [hxx, hyy]
        have := HK.out
        unfold okAll at this ⊢
        rw [List.take_succ_eq_append_getElem hkl, List.all_append, this]
        simp
      have HFALSE : Hid (okNum x y = false → okAll xs = false) := Lib.hid (fun h => by
        rw [hxx, hyy] at h
        unfold okAll
        rw [List.all_eq_false]
        exact ⟨xs[k], List.getElem_mem hkl, by simp [h]⟩)
      clear hxx hyy hR hrA HK
      go_wp2_with fail
      have HUA := Lib.hid (Up.alloc wr (.cells #[.int .i64 x, .int .i64 y] 55))
      refine Calls.mono (HV.out _ (by (repeat (first | exact Below.refl _ _ | exact Hid.out (by assumption) | refine Up.trans ?_ (Up.drew _) | refine Up.trans ?_ (Up.drewN _ _) | refine Up.trans ?_ (Up.alloc _ _) | refine Up.trans ?_ (Hid.out (by assumption)))))) ?_
      rintro e w1 ⟨rfl, hu1⟩
      have HU1 := Lib.hid hu1
      clear hu1 c0 c1 hbb hr
      rcases hv : okNum x y with _ | _
      · have HA := Lib.hid (HFALSE.out hv)
        clear HNEXT HFALSE hv
        go_wp2
        go_ret
        exact ⟨by rw [HA.out]; rfl, by (repeat (first | exact Below.refl _ _ | exact Hid.out (by assumption) | refine Up.trans ?_ (Up.drew _) | refine Up.trans ?_ (Up.drewN _ _) | refine Up.trans ?_ (Up.alloc _ _) | refine Up.trans ?_ (Hid.out (by assumption))))⟩
      · rw [hv] at HNEXT
        clear HFALSE hv
        go_wp2_with fail
        go_roundw
        case rel => exact ⟨k + 1, hkl, by simp, HNEXT, by (repeat (first | exact Below.refl _ _ | exact Hid.out (by assumption) | refine Up.trans ?_ (Up.drew _) | refine Up.trans ?_ (Up.drewN _ _) | refine Up.trans ?_ (Up.alloc _ _) | refine Up.trans ?_ (Hid.out (by assumption))))⟩
        case measure => simp [intOf]; omega
    · have HE : Hid (okAll xs = true) := by
        have := HK.out
        rw [List.take_of_length_le (by omega)] at this
        exact this
      clear HK
      go_wp2
      go_ret
      exact ⟨by rw [HE.out]; rfl, HU.out⟩
theorem rowF_at {f : List Int × Int} {i : Nat} (hi : i < f.1.length) : (rowF f)[i]'(by simp [rowF]; omega) = f.1[i] := by simp [rowF, List.getElem_append_left hi]
theorem rowF_last (f : List Int × Int) : (rowF f)[f.1.length]'(by simp [rowF]) = f.2 := by simp [rowF]
set_option maxHeartbeats 1000000 in
set_option maxRecDepth 10000 in
theorem linAt_any (A : Option Addr) (c i : Nat) (f : List Int × Int) (w : World) (hi : i < (rowF f).length) (hr : RdI w A f.1) :
    Calls Tryz.prog 42 #[.agg #[.slice A f.1.length c, .int .i64 f.2], .int .i64 i] w fun e w' => e = .returned (.agg #[.int .i64 (rowF f)[i], .int .i64 1]) ∧ Up w w' := by
  have HC := Lib.hid (CellF.new w A f.1.length c f.2)
  have hi2 : i ≤ f.1.length := by simp [rowF] at hi; omega
  have hcn := fun x => (CellN.new (w.alloc (.cells #[.slice A f.1.length c, .int .i64 f.2] 28)) x 1).facts
  simp only [size_alloc] at hcn
  have HCN := Lib.hid hcn
  clear hcn
  have HU := Lib.hid (fun x : Int => (Up.alloc w (.cells #[.slice A f.1.length c, .int .i64 f.2] 28)).trans (Up.alloc _ (.cells #[.int .i64 x, .int .i64 1] 55)))
  by_cases he : i = f.1.length
  · subst he
    have HE := Lib.hid (rowF_last f)
    go_enter Tryz.func42, Tryz.ntmps42
    go_wp2
    obtain ⟨z0, z1, -, -, -⟩ := HCN.out f.2
    refine bodyPost_ret (by simp [results, Tryz.results42, go_sem, z0, z1]; try rfl) rfl ?_
    exact ⟨by rw [HE.out], HU.out _⟩
  · have hlt : i < f.1.length := by omega
    have hne : ((i : Int) == (f.1.length : Int)) = false := by simp; omega
    have HE := Lib.hid (rowF_at hlt)
    obtain ⟨b, off, rfl, hbb, c0⟩ := hr.at_ hlt
    have c1 := (Up.alloc w (.cells #[.slice (some ⟨b, off, none⟩) f.1.length c, .int .i64 f.2] 28)).cells.1 _ (off + i) hbb
    rw [c0] at c1
    have c2 := ((Up.alloc w (.cells #[.slice (some ⟨b, off, none⟩) f.1.length c, .int .i64 f.2] 28)).trans (Up.alloc _ (.cells #[.int .i64 0, .int .i64 0] 55))).cells.1 _ (off + i) hbb
    rw [c0] at c2
    have i0 : (0 : Int) ≤ (i : Int) := by omega
    have i1 : (i : Int) < (f.1.length : Int) := by omega
    generalize f.1[i] = y at *
    clear he
    go_enter Tryz.func42, Tryz.ntmps42
    go_wp2
    obtain ⟨z0, z1, -, -, -⟩ := HCN.out y
    refine bodyPost_ret (by simp [results, Tryz.results42, go_sem, z0, z1]; try rfl) rfl ?_
    exact ⟨by rw [HE.out], HU.out _⟩
theorem mkNums0 (n : Nat) (hn : n ≤ 4294967296) (w : World) : (Instr.makeSlice 23 (.int .i64 0) (.int .i64 (n : Int))).run Tryz.prog w =
    .ok (.slice (some ⟨w.heap.size, 0, none⟩) 0 n) (w.alloc (.cells (zeroNums n) 55)) := by
  obtain ⟨i0, hi, hz0, hz1, hz2⟩ := info_parts info_numz
  have h := run_make (P := Tryz.prog) w 23 55 i0 (.agg #[.int .i64 0, .int .i64 0]) Tryz.underlying23 hi hz0 .i64 .i64 0 n (by omega) (by omega) (by rw [hz2]; omega) (by omega)
  rw [h, hz1]; simp only [Int.toNat_natCast, Int.toNat_zero, zeroNums]
theorem zeroNums_nod (n : Nat) : ∀ u ∈ (zeroNums n).toList, NoDig u := by
  intro u hu
  obtain ⟨j, hj, rfl⟩ := List.mem_iff_getElem.1 hu
  rw [Array.getElem_toList]
  rcases Nat.mod_two_eq_zero_or_one j with h | h
  · simp [zeroNums, madeCells, Value.cells, h]; exact NoDig.int _
  · simp [zeroNums, madeCells, Value.cells, h]; exact NoDig.int _
theorem OwE.madeN (w0 w : World) (n : Nat) (hn : n ≤ 4294967296) (hu : Up w0 w) : OwE eltN w0 (w.alloc (.cells (zeroNums n) 55)) 55 (.slice (some ⟨w.heap.size, 0, none⟩) 0 n) [] :=
  ⟨[], trivial, World.ownsRow_made w (zeroNums n) n hu.size (by unfold maxLen; omega) (by simp [zeroNums, madeCells]; rfl), fun g hg => by cases hg; exact nodig_heap (heap_alloc_new w _) (zeroNums_nod n)⟩
theorem okNum_one {y : Int} (h : limI y = true) : okNum y 1 = true := by
  simp only [limI, decide_eq_true_eq] at h
  simp only [okNum, decide_eq_true_eq]
  exact ⟨by omega, by omega, by omega, by omega, by simp⟩
theorem numDot_val (A B : Option Addr) (c d : Nat) (l m : List (Int × Int)) (w : World) (hlm : l.length = m.length) (hn : l.length ≤ 1000) (hc : l.length ≤ c) (hcm : c ≤ maxLen) (hd : m.length ≤ d) (hdm : d ≤ maxLen) (hr : RdN w A l) (hs : RdN w B m) (hl : okAll l = true) (hm : okAll m = true) (hx : ∀ p, p ∈ l → Rng p.1 p.2) (hy : ∀ p, p ∈ m → Rng p.1 p.2) (ht : Tab w) :
    Calls Tryz.prog 43 #[.slice A l.length c, .slice B m.length d] w fun e w' => e = .returned (.tuple #[.agg #[.int .i64 (numX true (dotQ l m)), .int .i64 (numY true (dotQ l m))], .int .i64 (numE true (dotQ l m))]) ∧ Up w w' := by
  have HN1 := Lib.hid (fun W (hu : Up w W) => numAllValid_any A c l W hc hcm (hr.up hu) hx (ht.up hu))
  have HN2 := Lib.hid (fun W (hu : Up w W) => numAllValid_any B d m W hd hdm (hs.up hu) hy (ht.up hu))
  rw [hl] at HN1
  rw [hm, ← hlm] at HN2
  rw [← hlm]
  exact numDot_ok A B c d l.length (dotQ l m) _ _ _ w HN1 HN2 (Lib.hid fun W' hu' => products_any l.length A B c d l m W' (Nat.le_refl _) hlm hc (by omega) (by omega) (hr.up hu') (hs.up hu') hl hm (ht.up hu')) (Lib.hid fun W' u k => by
    have := limited_any u (dotQ l m) W' k
    simpa only [numX, numY, numE, Bool.true_and, if_true] using this)
theorem rowF_lim {n : Int} {f : List Int × Int} (hv : validF n f = true) : (rowF f).all limI = true := by
  simp only [validF, Bool.and_eq_true] at hv
  simp [rowF, hv.1.2]
  have := hv.2
  rw [List.all_eq_true] at this
  exact this
def ratsOf (xs : List (Int × Int)) : List Rat := xs.map fun p => ratOf p.1 p.2
theorem eltQ.small {w : World} {s s2 : Int} {g g2 : Bool} {A A2 : Option Addr} {n c n2 c2 : Nat} {q : Rat} (h : RQ w (.agg #[.int .i64 s, .bool g, .slice A n c, .int .i64 s2, .bool g2, .slice A2 n2 c2]) q) (h1 : q.num.natAbs < 2305843009213693952) (h2 : q.den < 2305843009213693952) {o : Option Nat} : eltQ.rel w o [.int .i64 s, .bool g, .slice A n c, .int .i64 s2, .bool g2, .slice A2 n2 c2] q := by
  obtain ⟨s', s2', g', g2', A', A2', n', c', n2', c2', e, h, k⟩ := h
  cases e
  refine ⟨s, g, A, n, c, s2, g2, A2, n2, c2, rfl, ?_, ?_⟩
  · rcases h.ria with h | ⟨_, _, h3, _⟩
    · exact .inl h
    · omega
  · rcases k.ria with h | ⟨_, _, h3, _⟩
    · exact .inl h
    · rw [Int.natAbs_natCast] at h3; omega
set_option maxHeartbeats 1000000 in
set_option maxRecDepth 10000 in
theorem refRats_any (A : Option Addr) (c : Nat) (xs : List (Int × Int)) (w : World) (hn : xs.length ≤ 1000000) (hr : RdN w A xs) (hk : okAll xs = true) :
    Calls Tryz.prog 30 #[.slice A xs.length c] w fun e w' => ∃ A' c', e = .returned (.slice A' (ratsOf xs).length c') ∧ RdE eltQ w' A' (ratsOf xs) ∧ Up w w' := by
  go_enter Tryz.func30, Tryz.ntmps30
  go_wp2
  go_loopw [3, 8] (fun v i wr => ∃ k : Nat, k ≤ xs.length ∧ i = .int .i64 k ∧ Hid (OwE eltQ w wr 50 v (ratsOf (xs.take k))) ∧ Hid (Up w wr)) (fun _ i _ => xs.length - (intOf i).toNat)
  case atStart => exact ⟨0, by omega, rfl, Lib.hid (OwE.nil _ _ _ _), Lib.hid (Up.refl _)⟩
  case round =>
    obtain ⟨k, hkk, rfl, HOW, HU⟩ := hrel
    by_cases hkl : k < xs.length
    · obtain ⟨b, off, rfl, hbb, hcell⟩ := (hr.up HU.out).at_ hkl
      have hok := okAll_get hk hkl
      have HNEXT : Hid (ratsOf (xs.take (k + 1)) = ratsOf (xs.take k) ++ [ratOf xs[k].1 xs[k].2]) := Lib.hid (by unfold ratsOf; rw [List.take_succ_eq_append_getElem hkl, List.map_append]; rfl)
      have HLEN : Hid ((ratsOf (xs.take k)).length ≤ 1000000000) := Lib.hid (by unfold ratsOf; rw [List.length_map, List.length_take]; omega)
      obtain ⟨x, hxx⟩ : ∃ x, x = xs[k].1 := ⟨_, rfl⟩
      obtain ⟨y, hyy⟩ : ∃ y, y = xs[k].2 := ⟨_, rfl⟩
      rw [← hxx, ← hyy] at hcell hok HNEXT
      obtain ⟨c0, c1⟩ := hcell
      have HT := Lib.hid (fun W => refTo_q x y W hok)
      have HSM := Lib.hid (And.intro (ratOf_ok hok) (ok_bounds hok))
      clear hxx hyy hok
      go_wp2_with fail
      have HUA := Lib.hid (Up.alloc wr (.cells #[.int .i64 x, .int .i64 y] 55))
      refine Calls.mono (HT.out _) ?_
      rintro e w1 ⟨v, rfl, hv, hu1⟩
      have HU1 := Lib.hid hu1
      have HV := Lib.hid hv
      obtain ⟨s, s2, g, g2, A5, A6, n5, c5, n6, c6, rfl, -⟩ := hv
      clear hu1 c0 c1 hbb hr
      go_wp2_with (at_builtin; refine wpList_pushQ eltQ w rfl (.tmp 12) (.tmp 15) 61 50 rfl _ 80 Tryz.underlying61 info_rq rfl zrq_nod (by decide) _ (ratsOf (xs.take k)) rfl (HOW.out.up ((HUA.out.trans HU1.out).trans (Up.alloc _ _))) (by (repeat (first | exact Below.refl _ _ | exact Hid.out (by assumption) | refine Up.trans ?_ (Up.drew _) | refine Up.trans ?_ (Up.drewN _ _) | refine Up.trans ?_ (Up.alloc _ _) | refine Up.trans ?_ (Hid.out (by assumption))))) ⟨w1.heap.size, 0, none⟩ rfl [.int .i64 s, .bool g, .slice A5 n5 c5, .int .i64 s2, .bool g2, .slice A6 n6 c6] (ratOf x y) (new_cells w1 [.int .i64 s, .bool g, .slice A5 n5 c5, .int .i64 s2, .bool g2, .slice A6 n6 c6] _) (eltQ.small (HV.out.up (Up.alloc _ _)) (by obtain ⟨⟨e1, e2⟩, h1, h2, h3, h4⟩ := HSM.out; omega) (by obtain ⟨⟨e1, e2⟩, h1, h2, h3, h4⟩ := HSM.out; omega)) HLEN.out ?_; intro v' w' hown' hup')
      exact ⟨⟨k + 1, by omega, by simp, by rw [HNEXT.out]; exact Lib.hid hown', Lib.hid hup'⟩, by simp [intOf]; omega⟩
    · have hke : k = xs.length := by omega
      subst hke
      rw [List.take_of_length_le (Nat.le_refl _)] at HOW
      obtain ⟨A5, c5, rfl, -, -, h3, -⟩ := HOW.out.read eltQ_none
      have H3 := Lib.hid h3
      clear h3
      go_wp2
      go_ret
      exact ⟨A5, c5, rfl, H3.out, HU.out⟩
end Go.Proofs.YtacbjbnocepnaaaGreatDoor

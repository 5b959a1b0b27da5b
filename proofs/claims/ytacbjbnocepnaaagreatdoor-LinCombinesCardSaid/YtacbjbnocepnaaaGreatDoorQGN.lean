/- Contracts of the reference implementation: quotient, remainder, greatest common divisor. -/
import Derived.Test.YtacbjbnocepnaaaGreatDoorQGM
namespace Go.Proofs.YtacbjbnocepnaaaGreatDoor
open Go.RowKit Fm
theorem refDivided_any (v1 v2 : Value) (m k : Nat) (w : World) (h1 : Ev w v1 m) (h2 : Ev w v2 k) (hk : 0 < k) (hm : (digs 1073741824 m).length ≤ 536870912) :
    Calls Tryz.prog 124 #[v1, v2] w fun e w' => DivPost w w' m k e := by
  by_cases hl : (digs 1073741824 k).length = 1
  · exact refDivided_one v1 v2 m k w h1 h2 hk hl hm
  · rcases Nat.lt_or_ge m k with hlt | hge
    · exact refDivided_less v1 v2 m k w h1 h2 hl hlt
    · have h0 : (digs 1073741824 k).length ≠ 0 := fun h => by
        have := List.eq_nil_of_length_eq_zero h
        rw [digs_eq_nil (by omega)] at this
        omega
      exact refDivided_main v1 v2 m k ((digs 1073741824 k).length - 1) w h1 h2 (by omega) (by omega) hge hm
theorem tdiv_nat (a b : Int) : (if (a.sign != b.sign) = true then -((a.natAbs / b.natAbs : Nat) : Int) else ((a.natAbs / b.natAbs : Nat) : Int)) = a.tdiv b := by
  rcases Int.eq_nat_or_neg a with ⟨m, rfl | rfl⟩ <;> rcases Int.eq_nat_or_neg b with ⟨k, rfl | rfl⟩
  all_goals simp only [Int.natAbs_neg, Int.natAbs_natCast, Int.neg_tdiv, Int.tdiv_neg, Int.neg_neg, Int.sign_neg]
  all_goals
    have e : ((m : Int).tdiv (k : Int)) = ((m / k : Nat) : Int) := rfl
    rw [e]
    rcases Nat.eq_zero_or_pos m with hm | hm
    · subst hm; simp
    · rcases Nat.eq_zero_or_pos k with hk | hk
      · subst hk; simp
      · have s1 : ((m : Nat) : Int).sign = 1 := Int.sign_eq_one_of_pos (by omega)
        have s2 : ((k : Nat) : Int).sign = 1 := Int.sign_eq_one_of_pos (by omega)
        rw [s1, s2]; simp
theorem tmod_nat (a b : Int) : (if decide (a.sign < 0) = true then -((a.natAbs % b.natAbs : Nat) : Int) else ((a.natAbs % b.natAbs : Nat) : Int)) = a.tmod b := by
  have hs : a.sign < 0 ↔ a < 0 := Int.sign_neg_iff
  rcases Int.eq_nat_or_neg b with ⟨k, rfl | rfl⟩ <;> rcases Int.eq_nat_or_neg a with ⟨m, rfl | rfl⟩
  all_goals simp only [Int.natAbs_neg, Int.natAbs_natCast, Int.neg_tmod, Int.tmod_neg, decide_eq_true_eq, hs]
  all_goals
    have e : ((m : Int).tmod (k : Int)) = ((m % k : Nat) : Int) := rfl
    rw [e]
    rcases Nat.eq_zero_or_pos m with hm | hm
    · subst hm; simp
    · first | (rw [if_pos (by omega)]) | (rw [if_neg (by omega)])
theorem startIV (w : World) (s : Int) (b : Bool) (v : Value) (s2 : Int) (b2 : Bool) (v2 : Value) :
    ∃ wB, (((w.alloc (.cells #[.int .i64 s, .bool b, v] 48)).alloc (.cells #[.int .i64 s2, .bool b2, v2] 48)).alloc (.cells #[.int .i64 0, .bool false, .slice none 0 0] 48)).alloc (.cells #[.int .i64 0, .bool false, .slice none 0 0] 48) = wB ∧
      CellI wB w.heap.size s b v ∧ CellI wB (w.heap.size + 1) s2 b2 v2 ∧ Res3 wB (w.heap.size + 1 + 1) ∧ Res3 wB (w.heap.size + 1 + 1 + 1) ∧ Up w wB := by
  obtain ⟨wB, h1, h2, h3, h4, h5⟩ := startII w s b v s2 b2 v2
  refine ⟨_, rfl, ?_⟩
  rw [h1]
  have hs : wB.heap.size = w.heap.size + 1 + 1 + 1 := by rw [← h1]; simp
  have hu := Up.alloc wB (.cells #[.int .i64 0, .bool false, .slice none 0 0] 48)
  have h6 := Res3.new wB
  rw [hs] at h6
  exact ⟨h2.up hu, h3.up hu, h4.up hu, h6, h5.trans hu⟩
theorem Res3.far {w : World} {g : Nat} (h : Res3 w g) {g' : Nat} (hne : g ≠ g') (x y z : Value) : Res3 (put3 w g' x y z) g := by
  unfold Res3 at *
  rw [Below.heap_setCell _ ⟨g', 2, none⟩ z g hne, Below.heap_setCell _ ⟨g', 1, none⟩ y g hne, Below.heap_setCell _ ⟨g', 0, none⟩ x g hne]
  exact h
set_option maxHeartbeats 1000000 in
set_option maxRecDepth 10000 in
theorem refOver_small (v1 v2 : Value) (a b : Int) (w : World) (h1 : RI w v1 a) (h2 : RI w v2 b) (ha : a.natAbs < 2305843009213693952) (hb : b.natAbs < 2305843009213693952) (hb0 : b ≠ 0) :
    Calls Tryz.prog 89 #[v1, v2] w fun e w' => ∃ q r, e = .returned (.tuple #[q, r]) ∧ RI w' q (a.tdiv b) ∧ RI w' r (a.tmod b) ∧ Up w w' := by
  obtain ⟨s, g, A, n, c, rfl, hs1, hs2, hn, hc⟩ := h1.open_
  obtain ⟨s2, g2, A2, n2, c2, rfl, hs3, hs4, hn2, hc2⟩ := h2.open_
  obtain ⟨rfl, rfl⟩ : n = 0 ∧ s = a := by rcases hc with ⟨h1, h2, h3⟩ | ⟨h1, h2, h3, h4, h5⟩ <;> first | exact ⟨h1, h2⟩ | omega
  obtain ⟨rfl, rfl⟩ : n2 = 0 ∧ s2 = b := by rcases hc2 with ⟨h1, h2, h3⟩ | ⟨h1, h2, h3, h4, h5⟩ <;> first | exact ⟨h1, h2⟩ | omega
  have hd1 : (s.tdiv s2).natAbs ≤ s.natAbs := by rw [Int.natAbs_tdiv]; exact Nat.div_le_self _ _
  have hd2 : (s.tmod s2).natAbs ≤ s.natAbs := by rw [Int.natAbs_tmod]; exact Nat.mod_le _ _
  have HD1 := Lib.hid (show (s.tdiv s2).natAbs < 2305843009213693952 by omega)
  have HD2 := Lib.hid (show (s.tmod s2).natAbs < 2305843009213693952 by omega)
  have HW := Lib.hid (show wrap64 (s.tdiv s2) = s.tdiv s2 by unfold wrap64; omega)
  have hz : (s2 == 0) = false := by simp [hb0]
  clear h1 h2 hc hc2 ha hb hd1 hd2 hs1 hs2 hs3 hs4
  go_enter Tryz.func89, Tryz.ntmps89
  go_wp2_with fail
  obtain ⟨wB, hwB, hc1, hc2, hr1, hr2, hu0⟩ := startIV w s g (.slice A 0 c) s2 g2 (.slice A2 0 c2)
  rw [hwB]
  clear hwB
  have HU := Lib.hid hu0
  have HR1 := Lib.hid hr1
  have HR2 := Lib.hid hr2
  obtain ⟨a0, a1, a2, la⟩ := hc1.facts
  obtain ⟨b0, b1, b2, lb⟩ := hc2.facts
  obtain ⟨r0, r1, r2, f0, f1, f2, lr⟩ := hr1.facts
  obtain ⟨q0, q1, q2, e0, e1, e2, lq⟩ := hr2.facts
  clear hc1 hc2 hr1 hr2 hu0
  have hne1 : (w.heap.size + 1 + 1 = w.heap.size + 1 + 1 + 1) = False := by simp
  have hne2 : (w.heap.size + 1 + 1 + 1 = w.heap.size + 1 + 1) = False := by simp
  have HQ1 : Hid (CellI (put3 (put3 wB (w.heap.size + 1 + 1) (.int .i64 (wrap64 (s.tdiv s2))) (.bool false) (.slice none 0 0)) (w.heap.size + 1 + 1 + 1) (.int .i64 (s.tmod s2)) (.bool false) (.slice none 0 0)) (w.heap.size + 1 + 1) (wrap64 (s.tdiv s2)) false (.slice none 0 0)) :=
    ((show CellI wB (w.heap.size + 1 + 1) 0 false (.slice none 0 0) from HR1.out).set _ _ _).far (by omega) _ _ _
  have HQ2 : Hid (CellI (put3 (put3 wB (w.heap.size + 1 + 1) (.int .i64 (wrap64 (s.tdiv s2))) (.bool false) (.slice none 0 0)) (w.heap.size + 1 + 1 + 1) (.int .i64 (s.tmod s2)) (.bool false) (.slice none 0 0)) (w.heap.size + 1 + 1 + 1) (s.tmod s2) false (.slice none 0 0)) :=
    ((show CellI wB (w.heap.size + 1 + 1 + 1) 0 false (.slice none 0 0) from HR2.out).far (by omega) _ _ _).set _ _ _
  have HUF := Lib.hid ((HU.out.put3 (show w.heap.size ≤ w.heap.size + 1 + 1 by omega) (.int .i64 (wrap64 (s.tdiv s2))) (.bool false) (.slice none 0 0)).put3 (show w.heap.size ≤ w.heap.size + 1 + 1 + 1 by omega) (.int .i64 (s.tmod s2)) (.bool false) (.slice none 0 0))
  go_region
  obtain ⟨z0, z1, z2, -⟩ := HQ1.out.facts
  obtain ⟨y0, y1, y2, -⟩ := HQ2.out.facts
  go_wp2
  refine bodyPost_ret (by simp [results, Tryz.results89, go_sem, z0, z1, z2, y0, y1, y2]; try rfl) rfl ?_
  refine ⟨_, _, rfl, ?_, RI.small HD2.out, HUF.out.trans (Up.drew _)⟩
  rw [HW.out]
  exact RI.small HD1.out
set_option maxHeartbeats 2000000 in
set_option maxRecDepth 10000 in
theorem refOver_big (v1 v2 : Value) (a b : Int) (w : World) (h1 : RI w v1 a) (h2 : RI w v2 b) (hbig : 2305843009213693952 ≤ a.natAbs ∨ (a.natAbs < 2305843009213693952 ∧ 2305843009213693952 ≤ b.natAbs)) (hb0 : b ≠ 0) (ha : rl a ≤ 536870912) :
    Calls Tryz.prog 89 #[v1, v2] w fun e w' => ∃ q r, e = .returned (.tuple #[q, r]) ∧ RI w' q (a.tdiv b) ∧ RI w' r (a.tmod b) ∧ Up w w' := by
  have HLA := Lib.hid (fun W (hu : Up w W) => refList_any v1 a W (h1.up hu))
  have HLB := Lib.hid (fun W (hu : Up w W) => refList_any v2 b W (h2.up hu))
  obtain ⟨sa, hsa⟩ : ∃ sa, sa = a.sign := ⟨_, rfl⟩
  obtain ⟨sb, hsb⟩ : ∃ sb, sb = b.sign := ⟨_, rfl⟩
  have HSA := Lib.hid (fun W (hu : Up w W) => refSign_any v1 a W (h1.up hu))
  have HSB := Lib.hid (fun W (hu : Up w W) => refSign_any v2 b W (h2.up hu))
  rw [← hsa] at HSA
  rw [← hsb] at HSB
  have HGA := Lib.hid hsa
  have HGB := Lib.hid hsb
  have HDA := Lib.hid ha
  have HB0 := Lib.hid (show 0 < b.natAbs by omega)
  obtain ⟨s, g, A, n, c, rfl, hs1, hs2, hn, hc⟩ := h1.open_
  obtain ⟨s2, g2, A2, n2, c2, rfl, hs3, hs4, hn2, hc2⟩ := h2.open_
  have hnn : 0 < n ∨ (n = 0 ∧ 0 < n2) := by
    rcases hc with ⟨q1, q2, q3⟩ | ⟨q1, q2, q3, q4, q5⟩
    · rcases hc2 with ⟨q6, q7, q8⟩ | ⟨q6, q7, q8, q9, q10⟩
      · omega
      · exact .inr ⟨q1, q6⟩
    · exact .inl q1
  clear h1 h2 hc hc2 ha hb0 hs1 hs2 hs3 hs4 hbig hsa hsb
  rcases hnn with hn0 | ⟨rfl, hn0⟩
  · go_enter Tryz.func89, Tryz.ntmps89
    go_wp2_with fail
    obtain ⟨wB, hwB, hc1, hc2, hr1, hr2, hu0⟩ := startIV w s g (.slice A n c) s2 g2 (.slice A2 n2 c2)
    rw [hwB]
    clear hwB
    have HC1 := Lib.hid hc1
    have HC2 := Lib.hid hc2
    have HR1 := Lib.hid hr1
    have HR2 := Lib.hid hr2
    have HU := Lib.hid hu0
    clear hc1 hc2 hr1 hr2 hu0
    obtain ⟨a0, a1, a2, la⟩ := HC1.out.facts
    obtain ⟨b0, b1, b2, lb⟩ := HC2.out.facts
    have hne1 : (w.heap.size + 1 + 1 = w.heap.size + 1 + 1 + 1) = False := by simp
    have hne2 : (w.heap.size + 1 + 1 + 1 = w.heap.size + 1 + 1) = False := by simp
    have hne3 : (w.heap.size = w.heap.size + 1 + 1) = False := by simp; omega
    have hne4 : (w.heap.size = w.heap.size + 1 + 1 + 1) = False := by simp; omega
    have hne5 : (w.heap.size + 1 + 1 = w.heap.size) = False := by simp; omega
    have hne6 : (w.heap.size + 1 + 1 + 1 = w.heap.size) = False := by simp; omega
    go_upto_region 3 with fail
    go_region_held3 (fun w' => w'.cell? ⟨w.heap.size, 0, none⟩ = some (.int .i64 s) ∧ w'.cell? ⟨w.heap.size, 1, none⟩ = some (.bool g) ∧ w'.cell? ⟨w.heap.size, 2, none⟩ = some (.slice A n c) ∧ w'.cell? ⟨w.heap.size + 1, 0, none⟩ = some (.int .i64 s2) ∧ w'.cell? ⟨w.heap.size + 1, 1, none⟩ = some (.bool g2) ∧ w'.cell? ⟨w.heap.size + 1, 2, none⟩ = some (.slice A2 n2 c2)) (go_keep)
      ((first
      | (go_at_call_of 109 (Value.agg #[.int .i64 s, .bool g, .slice A n c])
         refine Calls.mono (HLA.out _ (by (repeat (first | exact Below.refl _ _ | exact Hid.out (by assumption) | refine Up.trans ?_ (Up.drew _) | refine Up.trans ?_ (Up.drewN _ _) | refine Up.trans ?_ (Up.alloc _ _) | refine Up.trans ?_ (Hid.out (by assumption)))))) ?_
         rintro e w1 ⟨u1, rfl, hv1, hu1⟩
         have HU1 := Lib.hid hu1
         have HV1 := Lib.hid hv1
         clear hv1 hu1
         obtain ⟨a0, a1, a2, la⟩ := (HC1.out.up (w' := w1) (by (repeat (first | exact Below.refl _ _ | exact Hid.out (by assumption) | refine Up.trans ?_ (Up.drew _) | refine Up.trans ?_ (Up.drewN _ _) | refine Up.trans ?_ (Up.alloc _ _) | refine Up.trans ?_ (Hid.out (by assumption)))))).facts
         obtain ⟨b0, b1, b2, lb⟩ := (HC2.out.up (w' := w1) (by (repeat (first | exact Below.refl _ _ | exact Hid.out (by assumption) | refine Up.trans ?_ (Up.drew _) | refine Up.trans ?_ (Up.drewN _ _) | refine Up.trans ?_ (Up.alloc _ _) | refine Up.trans ?_ (Hid.out (by assumption)))))).facts)
      | (go_at_call_of 109 (Value.agg #[.int .i64 s2, .bool g2, .slice A2 n2 c2])
         refine Calls.mono (HLB.out _ (by (repeat (first | exact Below.refl _ _ | exact Hid.out (by assumption) | refine Up.trans ?_ (Up.drew _) | refine Up.trans ?_ (Up.drewN _ _) | refine Up.trans ?_ (Up.alloc _ _) | refine Up.trans ?_ (Hid.out (by assumption)))))) ?_
         rintro e w2 ⟨u2, rfl, hv2, hu2⟩
         have HU2 := Lib.hid hu2
         have HV2 := Lib.hid hv2
         have HV1b := Lib.hid (Sl.up HV1.out hu2)
         clear hv2 hu2
         obtain ⟨a0, a1, a2, la⟩ := (HC1.out.up (w' := w2) (by (repeat (first | exact Below.refl _ _ | exact Hid.out (by assumption) | refine Up.trans ?_ (Up.drew _) | refine Up.trans ?_ (Up.drewN _ _) | refine Up.trans ?_ (Up.alloc _ _) | refine Up.trans ?_ (Hid.out (by assumption)))))).facts
         obtain ⟨b0, b1, b2, lb⟩ := (HC2.out.up (w' := w2) (by (repeat (first | exact Below.refl _ _ | exact Hid.out (by assumption) | refine Up.trans ?_ (Up.drew _) | refine Up.trans ?_ (Up.drewN _ _) | refine Up.trans ?_ (Up.alloc _ _) | refine Up.trans ?_ (Hid.out (by assumption)))))).facts)
      | (go_at_call 124
         refine Calls.mono (refDivided_any _ _ _ _ _ HV1b.out HV2.out HB0.out HDA.out) ?_
         rintro e w3 ⟨qv, rv, qs, rs, rfl, hq1, hq2, hq3, hq4, hq5, hq6, hu3⟩
         have HU3 := Lib.hid hu3
         have HQ := Lib.hid (And.intro hq1 (And.intro hq2 hq3))
         have HR := Lib.hid (And.intro hq4 (And.intro hq5 hq6))
         clear hq1 hq2 hq3 hq4 hq5 hq6 hu3
         obtain ⟨a0, a1, a2, la⟩ := (HC1.out.up (w' := w3) (by (repeat (first | exact Below.refl _ _ | exact Hid.out (by assumption) | refine Up.trans ?_ (Up.drew _) | refine Up.trans ?_ (Up.drewN _ _) | refine Up.trans ?_ (Up.alloc _ _) | refine Up.trans ?_ (Hid.out (by assumption)))))).facts
         obtain ⟨b0, b1, b2, lb⟩ := (HC2.out.up (w' := w3) (by (repeat (first | exact Below.refl _ _ | exact Hid.out (by assumption) | refine Up.trans ?_ (Up.drew _) | refine Up.trans ?_ (Up.drewN _ _) | refine Up.trans ?_ (Up.alloc _ _) | refine Up.trans ?_ (Hid.out (by assumption)))))).facts)))
    clear a0 a1 a2 la b0 b1 b2 lb
    obtain ⟨a0, a1, a2, la⟩ := (HC1.out.up (w' := w3) (by (repeat (first | exact Below.refl _ _ | exact Hid.out (by assumption) | refine Up.trans ?_ (Up.drew _) | refine Up.trans ?_ (Up.drewN _ _) | refine Up.trans ?_ (Up.alloc _ _) | refine Up.trans ?_ (Hid.out (by assumption)))))).facts
    obtain ⟨b0, b1, b2, lb⟩ := (HC2.out.up (w' := w3) (by (repeat (first | exact Below.refl _ _ | exact Hid.out (by assumption) | refine Up.trans ?_ (Up.drew _) | refine Up.trans ?_ (Up.drewN _ _) | refine Up.trans ?_ (Up.alloc _ _) | refine Up.trans ?_ (Hid.out (by assumption)))))).facts
    clear HLA HLB HV1 HV1b HV2
    go_upto_region 4 with fail
    go_region_held3 (fun w' => w'.cell? ⟨w.heap.size, 0, none⟩ = some (.int .i64 s) ∧ w'.cell? ⟨w.heap.size, 1, none⟩ = some (.bool g) ∧ w'.cell? ⟨w.heap.size, 2, none⟩ = some (.slice A n c) ∧ w'.cell? ⟨w.heap.size + 1, 0, none⟩ = some (.int .i64 s2) ∧ w'.cell? ⟨w.heap.size + 1, 1, none⟩ = some (.bool g2) ∧ w'.cell? ⟨w.heap.size + 1, 2, none⟩ = some (.slice A2 n2 c2)) (go_keep)
      ((first
      | (go_at_call_of 73 (Value.agg #[.int .i64 s, .bool g, .slice A n c])
         refine Calls.mono (HSA.out _ (by (repeat (first | exact Below.refl _ _ | exact Hid.out (by assumption) | refine Up.trans ?_ (Up.drew _) | refine Up.trans ?_ (Up.drewN _ _) | refine Up.trans ?_ (Up.alloc _ _) | refine Up.trans ?_ (Hid.out (by assumption)))))) ?_
         rintro e w4 ⟨rfl, hu4⟩
         have HU4 := Lib.hid hu4
         clear hu4
         obtain ⟨a0, a1, a2, la⟩ := (HC1.out.up (w' := w4) (by (repeat (first | exact Below.refl _ _ | exact Hid.out (by assumption) | refine Up.trans ?_ (Up.drew _) | refine Up.trans ?_ (Up.drewN _ _) | refine Up.trans ?_ (Up.alloc _ _) | refine Up.trans ?_ (Hid.out (by assumption)))))).facts
         obtain ⟨b0, b1, b2, lb⟩ := (HC2.out.up (w' := w4) (by (repeat (first | exact Below.refl _ _ | exact Hid.out (by assumption) | refine Up.trans ?_ (Up.drew _) | refine Up.trans ?_ (Up.drewN _ _) | refine Up.trans ?_ (Up.alloc _ _) | refine Up.trans ?_ (Hid.out (by assumption)))))).facts)
      | (go_at_call_of 73 (Value.agg #[.int .i64 s2, .bool g2, .slice A2 n2 c2])
         refine Calls.mono (HSB.out _ (by (repeat (first | exact Below.refl _ _ | exact Hid.out (by assumption) | refine Up.trans ?_ (Up.drew _) | refine Up.trans ?_ (Up.drewN _ _) | refine Up.trans ?_ (Up.alloc _ _) | refine Up.trans ?_ (Hid.out (by assumption)))))) ?_
         rintro e w4 ⟨rfl, hu4⟩
         have HU4 := Lib.hid hu4
         clear hu4
         obtain ⟨a0, a1, a2, la⟩ := (HC1.out.up (w' := w4) (by (repeat (first | exact Below.refl _ _ | exact Hid.out (by assumption) | refine Up.trans ?_ (Up.drew _) | refine Up.trans ?_ (Up.drewN _ _) | refine Up.trans ?_ (Up.alloc _ _) | refine Up.trans ?_ (Hid.out (by assumption)))))).facts
         obtain ⟨b0, b1, b2, lb⟩ := (HC2.out.up (w' := w4) (by (repeat (first | exact Below.refl _ _ | exact Hid.out (by assumption) | refine Up.trans ?_ (Up.drew _) | refine Up.trans ?_ (Up.drewN _ _) | refine Up.trans ?_ (Up.alloc _ _) | refine Up.trans ?_ (Hid.out (by assumption)))))).facts)
      | (go_at_call_of 110 qv
         refine Calls.mono (refMade_any _ _ qs _ (Sl.up HQ.out.1 (by (repeat (first | exact Below.refl _ _ | exact Hid.out (by assumption) | refine Up.trans ?_ (Up.drew _) | refine Up.trans ?_ (Up.drewN _ _) | refine Up.trans ?_ (Up.alloc _ _) | refine Up.trans ?_ (Hid.out (by assumption)))))) HQ.out.2.1) ?_
         rintro e w5 ⟨v5, rfl, hv5, hu5⟩
         have HU5 := Lib.hid hu5
         have HV5 := Lib.hid hv5
         obtain ⟨s5, g5, A5, n5, c5, rfl, -⟩ := hv5
         clear hu5
         obtain ⟨a0, a1, a2, la⟩ := (HC1.out.up (w' := w5) (by (repeat (first | exact Below.refl _ _ | exact Hid.out (by assumption) | refine Up.trans ?_ (Up.drew _) | refine Up.trans ?_ (Up.drewN _ _) | refine Up.trans ?_ (Up.alloc _ _) | refine Up.trans ?_ (Hid.out (by assumption)))))).facts
         obtain ⟨b0, b1, b2, lb⟩ := (HC2.out.up (w' := w5) (by (repeat (first | exact Below.refl _ _ | exact Hid.out (by assumption) | refine Up.trans ?_ (Up.drew _) | refine Up.trans ?_ (Up.drewN _ _) | refine Up.trans ?_ (Up.alloc _ _) | refine Up.trans ?_ (Hid.out (by assumption)))))).facts)
      | (go_at_call_of 110 rv
         refine Calls.mono (refMade_any _ _ rs _ (Sl.up HR.out.1 (by (repeat (first | exact Below.refl _ _ | exact Hid.out (by assumption) | refine Up.trans ?_ (Up.drew _) | refine Up.trans ?_ (Up.drewN _ _) | refine Up.trans ?_ (Up.alloc _ _) | refine Up.trans ?_ (Hid.out (by assumption)))))) HR.out.2.1) ?_
         rintro e w6 ⟨v6, rfl, hv6, hu6⟩
         have HU6 := Lib.hid hu6
         have HV6 := Lib.hid hv6
         obtain ⟨s6, g6, A6, n6, c6, rfl, -⟩ := hv6
         clear hu6
         have HX1 := Lib.hid (HR1.out.up (w' := w6) (by (repeat (first | exact Below.refl _ _ | exact Hid.out (by assumption) | refine Up.trans ?_ (Up.drew _) | refine Up.trans ?_ (Up.drewN _ _) | refine Up.trans ?_ (Up.alloc _ _) | refine Up.trans ?_ (Hid.out (by assumption))))))
         have HX2 := Lib.hid (HR2.out.up (w' := w6) (by (repeat (first | exact Below.refl _ _ | exact Hid.out (by assumption) | refine Up.trans ?_ (Up.drew _) | refine Up.trans ?_ (Up.drewN _ _) | refine Up.trans ?_ (Up.alloc _ _) | refine Up.trans ?_ (Hid.out (by assumption))))))
         obtain ⟨r0, r1, r2, f0, f1, f2, lr⟩ := HX1.out.facts
         obtain ⟨q0, q1, q2, e0, e1, e2, lq⟩ := HX2.out.facts
         obtain ⟨a0, a1, a2, la⟩ := (HC1.out.up (w' := w6) (by (repeat (first | exact Below.refl _ _ | exact Hid.out (by assumption) | refine Up.trans ?_ (Up.drew _) | refine Up.trans ?_ (Up.drewN _ _) | refine Up.trans ?_ (Up.alloc _ _) | refine Up.trans ?_ (Hid.out (by assumption)))))).facts
         obtain ⟨b0, b1, b2, lb⟩ := (HC2.out.up (w' := w6) (by (repeat (first | exact Below.refl _ _ | exact Hid.out (by assumption) | refine Up.trans ?_ (Up.drew _) | refine Up.trans ?_ (Up.drewN _ _) | refine Up.trans ?_ (Up.alloc _ _) | refine Up.trans ?_ (Hid.out (by assumption)))))).facts)))
    have hne : w.heap.size + 1 + 1 ≠ w.heap.size + 1 + 1 + 1 := by omega
    have HQ1 : Hid (CellI (put3 (put3 w6 (w.heap.size + 1 + 1) (.int .i64 s5) (.bool g5) (.slice A5 n5 c5)) (w.heap.size + 1 + 1 + 1) (.int .i64 s6) (.bool g6) (.slice A6 n6 c6)) (w.heap.size + 1 + 1) s5 g5 (.slice A5 n5 c5)) :=
      ((show CellI w6 (w.heap.size + 1 + 1) 0 false (.slice none 0 0) from HX1.out).set _ _ _).far hne _ _ _
    have HQ2 : Hid (CellI (put3 (put3 w6 (w.heap.size + 1 + 1) (.int .i64 s5) (.bool g5) (.slice A5 n5 c5)) (w.heap.size + 1 + 1 + 1) (.int .i64 s6) (.bool g6) (.slice A6 n6 c6)) (w.heap.size + 1 + 1 + 1) s6 g6 (.slice A6 n6 c6)) :=
      ((show CellI w6 (w.heap.size + 1 + 1 + 1) 0 false (.slice none 0 0) from HX2.out).far (Ne.symm hne) _ _ _).set _ _ _
    have HUF := Lib.hid (((show Up w w6 by (repeat (first | exact Below.refl _ _ | exact Hid.out (by assumption) | refine Up.trans ?_ (Up.drew _) | refine Up.trans ?_ (Up.drewN _ _) | refine Up.trans ?_ (Up.alloc _ _) | refine Up.trans ?_ (Hid.out (by assumption))))).put3 (show w.heap.size ≤ w.heap.size + 1 + 1 by omega) (.int .i64 s5) (.bool g5) (.slice A5 n5 c5)).put3 (show w.heap.size ≤ w.heap.size + 1 + 1 + 1 by omega) (.int .i64 s6) (.bool g6) (.slice A6 n6 c6))
    have HRQ := Lib.hid (((HV5.out.up (show Up w5 w6 by (repeat (first | exact Below.refl _ _ | exact Hid.out (by assumption) | refine Up.trans ?_ (Up.drew _) | refine Up.trans ?_ (Up.drewN _ _) | refine Up.trans ?_ (Up.alloc _ _) | refine Up.trans ?_ (Hid.out (by assumption)))))).put HX1.out (.int .i64 s5) (.bool g5) (.slice A5 n5 c5)).put (HX2.out.far (Ne.symm hne) (.int .i64 s5) (.bool g5) (.slice A5 n5 c5)) (.int .i64 s6) (.bool g6) (.slice A6 n6 c6))
    have HRR := Lib.hid ((HV6.out.put HX1.out (.int .i64 s5) (.bool g5) (.slice A5 n5 c5)).put (HX2.out.far (Ne.symm hne) (.int .i64 s5) (.bool g5) (.slice A5 n5 c5)) (.int .i64 s6) (.bool g6) (.slice A6 n6 c6))
    clear hne
    obtain ⟨z0, z1, z2, -⟩ := HQ1.out.facts
    obtain ⟨y0, y1, y2, -⟩ := HQ2.out.facts
    go_wp2
    refine bodyPost_ret (by simp [results, Tryz.results89, go_sem, z0, z1, z2, y0, y1, y2]; try rfl) rfl ?_
    refine ⟨_, _, rfl, ?_, ?_, HUF.out⟩
    · have h9 := HRQ.out
      rw [HQ.out.2.2, HGA.out, HGB.out, tdiv_nat] at h9
      exact h9
    · have h9 := HRR.out
      rw [HR.out.2.2, HGA.out, tmod_nat] at h9
      exact h9
  · go_enter Tryz.func89, Tryz.ntmps89
    go_wp2_with fail
    obtain ⟨wB, hwB, hc1, hc2, hr1, hr2, hu0⟩ := startIV w s g (.slice A 0 c) s2 g2 (.slice A2 n2 c2)
    rw [hwB]
    clear hwB
    have HC1 := Lib.hid hc1
    have HC2 := Lib.hid hc2
    have HR1 := Lib.hid hr1
    have HR2 := Lib.hid hr2
    have HU := Lib.hid hu0
    clear hc1 hc2 hr1 hr2 hu0
    obtain ⟨a0, a1, a2, la⟩ := HC1.out.facts
    obtain ⟨b0, b1, b2, lb⟩ := HC2.out.facts
    have hne1 : (w.heap.size + 1 + 1 = w.heap.size + 1 + 1 + 1) = False := by simp
    have hne2 : (w.heap.size + 1 + 1 + 1 = w.heap.size + 1 + 1) = False := by simp
    have hne3 : (w.heap.size = w.heap.size + 1 + 1) = False := by simp; omega
    have hne4 : (w.heap.size = w.heap.size + 1 + 1 + 1) = False := by simp; omega
    have hne5 : (w.heap.size + 1 + 1 = w.heap.size) = False := by simp; omega
    have hne6 : (w.heap.size + 1 + 1 + 1 = w.heap.size) = False := by simp; omega
    go_upto_region 3 with fail
    go_region_held3 (fun w' => w'.cell? ⟨w.heap.size, 0, none⟩ = some (.int .i64 s) ∧ w'.cell? ⟨w.heap.size, 1, none⟩ = some (.bool g) ∧ w'.cell? ⟨w.heap.size, 2, none⟩ = some (.slice A 0 c) ∧ w'.cell? ⟨w.heap.size + 1, 0, none⟩ = some (.int .i64 s2) ∧ w'.cell? ⟨w.heap.size + 1, 1, none⟩ = some (.bool g2) ∧ w'.cell? ⟨w.heap.size + 1, 2, none⟩ = some (.slice A2 n2 c2)) (go_keep)
      ((first
      | (go_at_call_of 109 (Value.agg #[.int .i64 s, .bool g, .slice A 0 c])
         refine Calls.mono (HLA.out _ (by (repeat (first | exact Below.refl _ _ | exact Hid.out (by assumption) | refine Up.trans ?_ (Up.drew _) | refine Up.trans ?_ (Up.drewN _ _) | refine Up.trans ?_ (Up.alloc _ _) | refine Up.trans ?_ (Hid.out (by assumption)))))) ?_
         rintro e w1 ⟨u1, rfl, hv1, hu1⟩
         have HU1 := Lib.hid hu1
         have HV1 := Lib.hid hv1
         clear hv1 hu1
         obtain ⟨a0, a1, a2, la⟩ := (HC1.out.up (w' := w1) (by (repeat (first | exact Below.refl _ _ | exact Hid.out (by assumption) | refine Up.trans ?_ (Up.drew _) | refine Up.trans ?_ (Up.drewN _ _) | refine Up.trans ?_ (Up.alloc _ _) | refine Up.trans ?_ (Hid.out (by assumption)))))).facts
         obtain ⟨b0, b1, b2, lb⟩ := (HC2.out.up (w' := w1) (by (repeat (first | exact Below.refl _ _ | exact Hid.out (by assumption) | refine Up.trans ?_ (Up.drew _) | refine Up.trans ?_ (Up.drewN _ _) | refine Up.trans ?_ (Up.alloc _ _) | refine Up.trans ?_ (Hid.out (by assumption)))))).facts)
      | (go_at_call_of 109 (Value.agg #[.int .i64 s2, .bool g2, .slice A2 n2 c2])
         refine Calls.mono (HLB.out _ (by (repeat (first | exact Below.refl _ _ | exact Hid.out (by assumption) | refine Up.trans ?_ (Up.drew _) | refine Up.trans ?_ (Up.drewN _ _) | refine Up.trans ?_ (Up.alloc _ _) | refine Up.trans ?_ (Hid.out (by assumption)))))) ?_
         rintro e w2 ⟨u2, rfl, hv2, hu2⟩
         have HU2 := Lib.hid hu2
         have HV2 := Lib.hid hv2
         have HV1b := Lib.hid (Sl.up HV1.out hu2)
         clear hv2 hu2
         obtain ⟨a0, a1, a2, la⟩ := (HC1.out.up (w' := w2) (by (repeat (first | exact Below.refl _ _ | exact Hid.out (by assumption) | refine Up.trans ?_ (Up.drew _) | refine Up.trans ?_ (Up.drewN _ _) | refine Up.trans ?_ (Up.alloc _ _) | refine Up.trans ?_ (Hid.out (by assumption)))))).facts
         obtain ⟨b0, b1, b2, lb⟩ := (HC2.out.up (w' := w2) (by (repeat (first | exact Below.refl _ _ | exact Hid.out (by assumption) | refine Up.trans ?_ (Up.drew _) | refine Up.trans ?_ (Up.drewN _ _) | refine Up.trans ?_ (Up.alloc _ _) | refine Up.trans ?_ (Hid.out (by assumption)))))).facts)
      | (go_at_call 124
         refine Calls.mono (refDivided_any _ _ _ _ _ HV1b.out HV2.out HB0.out HDA.out) ?_
         rintro e w3 ⟨qv, rv, qs, rs, rfl, hq1, hq2, hq3, hq4, hq5, hq6, hu3⟩
         have HU3 := Lib.hid hu3
         have HQ := Lib.hid (And.intro hq1 (And.intro hq2 hq3))
         have HR := Lib.hid (And.intro hq4 (And.intro hq5 hq6))
         clear hq1 hq2 hq3 hq4 hq5 hq6 hu3
         obtain ⟨a0, a1, a2, la⟩ := (HC1.out.up (w' := w3) (by (repeat (first | exact Below.refl _ _ | exact Hid.out (by assumption) | refine Up.trans ?_ (Up.drew _) | refine Up.trans ?_ (Up.drewN _ _) | refine Up.trans ?_ (Up.alloc _ _) | refine Up.trans ?_ (Hid.out (by assumption)))))).facts
         obtain ⟨b0, b1, b2, lb⟩ := (HC2.out.up (w' := w3) (by (repeat (first | exact Below.refl _ _ | exact Hid.out (by assumption) | refine Up.trans ?_ (Up.drew _) | refine Up.trans ?_ (Up.drewN _ _) | refine Up.trans ?_ (Up.alloc _ _) | refine Up.trans ?_ (Hid.out (by assumption)))))).facts)))
    clear a0 a1 a2 la b0 b1 b2 lb
    obtain ⟨a0, a1, a2, la⟩ := (HC1.out.up (w' := w3) (by (repeat (first | exact Below.refl _ _ | exact Hid.out (by assumption) | refine Up.trans ?_ (Up.drew _) | refine Up.trans ?_ (Up.drewN _ _) | refine Up.trans ?_ (Up.alloc _ _) | refine Up.trans ?_ (Hid.out (by assumption)))))).facts
    obtain ⟨b0, b1, b2, lb⟩ := (HC2.out.up (w' := w3) (by (repeat (first | exact Below.refl _ _ | exact Hid.out (by assumption) | refine Up.trans ?_ (Up.drew _) | refine Up.trans ?_ (Up.drewN _ _) | refine Up.trans ?_ (Up.alloc _ _) | refine Up.trans ?_ (Hid.out (by assumption)))))).facts
    clear HLA HLB HV1 HV1b HV2
    go_upto_region 4 with fail
    go_region_held3 (fun w' => w'.cell? ⟨w.heap.size, 0, none⟩ = some (.int .i64 s) ∧ w'.cell? ⟨w.heap.size, 1, none⟩ = some (.bool g) ∧ w'.cell? ⟨w.heap.size, 2, none⟩ = some (.slice A 0 c) ∧ w'.cell? ⟨w.heap.size + 1, 0, none⟩ = some (.int .i64 s2) ∧ w'.cell? ⟨w.heap.size + 1, 1, none⟩ = some (.bool g2) ∧ w'.cell? ⟨w.heap.size + 1, 2, none⟩ = some (.slice A2 n2 c2)) (go_keep)
      ((first
      | (go_at_call_of 73 (Value.agg #[.int .i64 s, .bool g, .slice A 0 c])
         refine Calls.mono (HSA.out _ (by (repeat (first | exact Below.refl _ _ | exact Hid.out (by assumption) | refine Up.trans ?_ (Up.drew _) | refine Up.trans ?_ (Up.drewN _ _) | refine Up.trans ?_ (Up.alloc _ _) | refine Up.trans ?_ (Hid.out (by assumption)))))) ?_
         rintro e w4 ⟨rfl, hu4⟩
         have HU4 := Lib.hid hu4
         clear hu4
         obtain ⟨a0, a1, a2, la⟩ := (HC1.out.up (w' := w4) (by (repeat (first | exact Below.refl _ _ | exact Hid.out (by assumption) | refine Up.trans ?_ (Up.drew _) | refine Up.trans ?_ (Up.drewN _ _) | refine Up.trans ?_ (Up.alloc _ _) | refine Up.trans ?_ (Hid.out (by assumption)))))).facts
         obtain ⟨b0, b1, b2, lb⟩ := (HC2.out.up (w' := w4) (by (repeat (first | exact Below.refl _ _ | exact Hid.out (by assumption) | refine Up.trans ?_ (Up.drew _) | refine Up.trans ?_ (Up.drewN _ _) | refine Up.trans ?_ (Up.alloc _ _) | refine Up.trans ?_ (Hid.out (by assumption)))))).facts)
      | (go_at_call_of 73 (Value.agg #[.int .i64 s2, .bool g2, .slice A2 n2 c2])
         refine Calls.mono (HSB.out _ (by (repeat (first | exact Below.refl _ _ | exact Hid.out (by assumption) | refine Up.trans ?_ (Up.drew _) | refine Up.trans ?_ (Up.drewN _ _) | refine Up.trans ?_ (Up.alloc _ _) | refine Up.trans ?_ (Hid.out (by assumption)))))) ?_
         rintro e w4 ⟨rfl, hu4⟩
         have HU4 := Lib.hid hu4
         clear hu4
         obtain ⟨a0, a1, a2, la⟩ := (HC1.out.up (w' := w4) (by (repeat (first | exact Below.refl _ _ | exact Hid.out (by assumption) | refine Up.trans ?_ (Up.drew _) | refine Up.trans ?_ (Up.drewN _ _) | refine Up.trans ?_ (Up.alloc _ _) | refine Up.trans ?_ (Hid.out (by assumption)))))).facts
         obtain ⟨b0, b1, b2, lb⟩ := (HC2.out.up (w' := w4) (by (repeat (first | exact Below.refl _ _ | exact Hid.out (by assumption) | refine Up.trans ?_ (Up.drew _) | refine Up.trans ?_ (Up.drewN _ _) | refine Up.trans ?_ (Up.alloc _ _) | refine Up.trans ?_ (Hid.out (by assumption)))))).facts)
      | (go_at_call_of 110 qv
         refine Calls.mono (refMade_any _ _ qs _ (Sl.up HQ.out.1 (by (repeat (first | exact Below.refl _ _ | exact Hid.out (by assumption) | refine Up.trans ?_ (Up.drew _) | refine Up.trans ?_ (Up.drewN _ _) | refine Up.trans ?_ (Up.alloc _ _) | refine Up.trans ?_ (Hid.out (by assumption)))))) HQ.out.2.1) ?_
         rintro e w5 ⟨v5, rfl, hv5, hu5⟩
         have HU5 := Lib.hid hu5
         have HV5 := Lib.hid hv5
         obtain ⟨s5, g5, A5, n5, c5, rfl, -⟩ := hv5
         clear hu5
         obtain ⟨a0, a1, a2, la⟩ := (HC1.out.up (w' := w5) (by (repeat (first | exact Below.refl _ _ | exact Hid.out (by assumption) | refine Up.trans ?_ (Up.drew _) | refine Up.trans ?_ (Up.drewN _ _) | refine Up.trans ?_ (Up.alloc _ _) | refine Up.trans ?_ (Hid.out (by assumption)))))).facts
         obtain ⟨b0, b1, b2, lb⟩ := (HC2.out.up (w' := w5) (by (repeat (first | exact Below.refl _ _ | exact Hid.out (by assumption) | refine Up.trans ?_ (Up.drew _) | refine Up.trans ?_ (Up.drewN _ _) | refine Up.trans ?_ (Up.alloc _ _) | refine Up.trans ?_ (Hid.out (by assumption)))))).facts)
      | (go_at_call_of 110 rv
         refine Calls.mono (refMade_any _ _ rs _ (Sl.up HR.out.1 (by (repeat (first | exact Below.refl _ _ | exact Hid.out (by assumption) | refine Up.trans ?_ (Up.drew _) | refine Up.trans ?_ (Up.drewN _ _) | refine Up.trans ?_ (Up.alloc _ _) | refine Up.trans ?_ (Hid.out (by assumption)))))) HR.out.2.1) ?_
         rintro e w6 ⟨v6, rfl, hv6, hu6⟩
         have HU6 := Lib.hid hu6
         have HV6 := Lib.hid hv6
         obtain ⟨s6, g6, A6, n6, c6, rfl, -⟩ := hv6
         clear hu6
         have HX1 := Lib.hid (HR1.out.up (w' := w6) (by (repeat (first | exact Below.refl _ _ | exact Hid.out (by assumption) | refine Up.trans ?_ (Up.drew _) | refine Up.trans ?_ (Up.drewN _ _) | refine Up.trans ?_ (Up.alloc _ _) | refine Up.trans ?_ (Hid.out (by assumption))))))
         have HX2 := Lib.hid (HR2.out.up (w' := w6) (by (repeat (first | exact Below.refl _ _ | exact Hid.out (by assumption) | refine Up.trans ?_ (Up.drew _) | refine Up.trans ?_ (Up.drewN _ _) | refine Up.trans ?_ (Up.alloc _ _) | refine Up.trans ?_ (Hid.out (by assumption))))))
         obtain ⟨r0, r1, r2, f0, f1, f2, lr⟩ := HX1.out.facts
         obtain ⟨q0, q1, q2, e0, e1, e2, lq⟩ := HX2.out.facts
         obtain ⟨a0, a1, a2, la⟩ := (HC1.out.up (w' := w6) (by (repeat (first | exact Below.refl _ _ | exact Hid.out (by assumption) | refine Up.trans ?_ (Up.drew _) | refine Up.trans ?_ (Up.drewN _ _) | refine Up.trans ?_ (Up.alloc _ _) | refine Up.trans ?_ (Hid.out (by assumption)))))).facts
         obtain ⟨b0, b1, b2, lb⟩ := (HC2.out.up (w' := w6) (by (repeat (first | exact Below.refl _ _ | exact Hid.out (by assumption) | refine Up.trans ?_ (Up.drew _) | refine Up.trans ?_ (Up.drewN _ _) | refine Up.trans ?_ (Up.alloc _ _) | refine Up.trans ?_ (Hid.out (by assumption)))))).facts)))
    have hne : w.heap.size + 1 + 1 ≠ w.heap.size + 1 + 1 + 1 := by omega
    have HQ1 : Hid (CellI (put3 (put3 w6 (w.heap.size + 1 + 1) (.int .i64 s5) (.bool g5) (.slice A5 n5 c5)) (w.heap.size + 1 + 1 + 1) (.int .i64 s6) (.bool g6) (.slice A6 n6 c6)) (w.heap.size + 1 + 1) s5 g5 (.slice A5 n5 c5)) :=
      ((show CellI w6 (w.heap.size + 1 + 1) 0 false (.slice none 0 0) from HX1.out).set _ _ _).far hne _ _ _
    have HQ2 : Hid (CellI (put3 (put3 w6 (w.heap.size + 1 + 1) (.int .i64 s5) (.bool g5) (.slice A5 n5 c5)) (w.heap.size + 1 + 1 + 1) (.int .i64 s6) (.bool g6) (.slice A6 n6 c6)) (w.heap.size + 1 + 1 + 1) s6 g6 (.slice A6 n6 c6)) :=
      ((show CellI w6 (w.heap.size + 1 + 1 + 1) 0 false (.slice none 0 0) from HX2.out).far (Ne.symm hne) _ _ _).set _ _ _
    have HUF := Lib.hid (((show Up w w6 by (repeat (first | exact Below.refl _ _ | exact Hid.out (by assumption) | refine Up.trans ?_ (Up.drew _) | refine Up.trans ?_ (Up.drewN _ _) | refine Up.trans ?_ (Up.alloc _ _) | refine Up.trans ?_ (Hid.out (by assumption))))).put3 (show w.heap.size ≤ w.heap.size + 1 + 1 by omega) (.int .i64 s5) (.bool g5) (.slice A5 n5 c5)).put3 (show w.heap.size ≤ w.heap.size + 1 + 1 + 1 by omega) (.int .i64 s6) (.bool g6) (.slice A6 n6 c6))
    have HRQ := Lib.hid (((HV5.out.up (show Up w5 w6 by (repeat (first | exact Below.refl _ _ | exact Hid.out (by assumption) | refine Up.trans ?_ (Up.drew _) | refine Up.trans ?_ (Up.drewN _ _) | refine Up.trans ?_ (Up.alloc _ _) | refine Up.trans ?_ (Hid.out (by assumption)))))).put HX1.out (.int .i64 s5) (.bool g5) (.slice A5 n5 c5)).put (HX2.out.far (Ne.symm hne) (.int .i64 s5) (.bool g5) (.slice A5 n5 c5)) (.int .i64 s6) (.bool g6) (.slice A6 n6 c6))
    have HRR := Lib.hid ((HV6.out.put HX1.out (.int .i64 s5) (.bool g5) (.slice A5 n5 c5)).put (HX2.out.far (Ne.symm hne) (.int .i64 s5) (.bool g5) (.slice A5 n5 c5)) (.int .i64 s6) (.bool g6) (.slice A6 n6 c6))
    clear hne
    obtain ⟨z0, z1, z2, -⟩ := HQ1.out.facts
    obtain ⟨y0, y1, y2, -⟩ := HQ2.out.facts
    go_wp2
    refine bodyPost_ret (by simp [results, Tryz.results89, go_sem, z0, z1, z2, y0, y1, y2]; try rfl) rfl ?_
    refine ⟨_, _, rfl, ?_, ?_, HUF.out⟩
    · have h9 := HRQ.out
      rw [HQ.out.2.2, HGA.out, HGB.out, tdiv_nat] at h9
      exact h9
    · have h9 := HRR.out
      rw [HR.out.2.2, HGA.out, tmod_nat] at h9
      exact h9
end Go.Proofs.YtacbjbnocepnaaaGreatDoor
namespace Go.Proofs.YtacbjbnocepnaaaGreatDoor
open Go.RowKit Fm
theorem RI.putI {w : World} {v : Value} {z : Int} (h : RI w v z) {g : Nat} {s0 : Int} {b0 : Bool} {A0 : Option Addr} {n0 c0 : Nat} (hg : CellI w g s0 b0 (.slice A0 n0 c0)) (x y u : Value) : RI (put3 w g x y u) v z := by
  obtain ⟨s, b, A, n, c, rfl, h⟩ := h
  refine ⟨s, b, A, n, c, rfl, ?_⟩
  rcases h with h | ⟨h1, h2, h3, h4⟩
  · exact .inl h
  · refine .inr ⟨h1, h2, h3, ?_⟩
    obtain ⟨A', c', he, h5, h6, h7⟩ := h4
    refine ⟨A', c', he, h5, h6, fun hn => ?_⟩
    obtain ⟨b', off, hA, hb, hc⟩ := h7 hn
    have hne : b' ≠ g := by
      rintro rfl
      have hl : 1 < (digs 1073741824 z.natAbs).length := by
        rcases Nat.lt_or_ge 1 (digs 1073741824 z.natAbs).length with h9 | h9
        · exact h9
        · have h10 := val_lt (B := 1073741824) (by omega) (digs_ok (by omega) z.natAbs)
          rw [val_digs (by omega)] at h10
          have h11 : 1073741824 ^ (digs 1073741824 z.natAbs).length ≤ 1073741824 ^ 1 := Nat.pow_le_pow_right (by omega) h9
          omega
      have h8 := hc 0 (by omega)
      have h9 := hc 1 hl
      obtain ⟨q0, q1, q2, -⟩ := hg.facts
      rcases off with _ | _ | _ | k
      · have h10 := q1.symm.trans h9; cases h10
      · have h10 := q1.symm.trans h8; cases h10
      · have h10 := q2.symm.trans h8; cases h10
      · rw [cell_of_row _ _ _ _ _ _ hg] at h8; simp at h8
    refine ⟨b', off, hA, by simpa [put3, World.setCell] using hb, fun i hi => ?_⟩
    rw [← hc i hi]
    exact World.cell?_of_block (by
      rw [Below.heap_setCell _ ⟨g, 2, none⟩ u b' hne, Below.heap_setCell _ ⟨g, 1, none⟩ y b' hne, Below.heap_setCell _ ⟨g, 0, none⟩ x b' hne])
theorem refOver_any (v1 v2 : Value) (a b : Int) (w : World) (h1 : RI w v1 a) (h2 : RI w v2 b) (hb0 : b ≠ 0) (ha : rl a ≤ 536870912) :
    Calls Tryz.prog 89 #[v1, v2] w fun e w' => ∃ q r, e = .returned (.tuple #[q, r]) ∧ RI w' q (a.tdiv b) ∧ RI w' r (a.tmod b) ∧ Up w w' := by
  by_cases h3 : a.natAbs < 2305843009213693952
  · by_cases h4 : b.natAbs < 2305843009213693952
    · exact refOver_small v1 v2 a b w h1 h2 h3 h4 hb0
    · exact refOver_big v1 v2 a b w h1 h2 (.inr ⟨h3, by omega⟩) hb0 ha
  · exact refOver_big v1 v2 a b w h1 h2 (.inl (by omega)) hb0 ha
def GcdRel (w : World) (G k : Nat) (wr : World) : Prop :=
  ∃ (x y sx sy : Int) (bx by_ : Bool) (Ax Ay : Option Addr) (nx cx ny cy : Nat), k = y.natAbs ∧ CellI wr w.heap.size sx bx (.slice Ax nx cx) ∧ RI wr (.agg #[.int .i64 sx, .bool bx, .slice Ax nx cx]) x ∧
    CellI wr (w.heap.size + 1) sy by_ (.slice Ay ny cy) ∧ RI wr (.agg #[.int .i64 sy, .bool by_, .slice Ay ny cy]) y ∧ Res3 wr (w.heap.size + 1 + 1) ∧ Int.gcd x y = G ∧ rl x ≤ 536870912 ∧ rl y ≤ 536870912 ∧ Up w wr
set_option maxHeartbeats 2000000 in
set_option maxRecDepth 10000 in
theorem refGcd_any (v1 v2 : Value) (a b : Int) (w : World) (h1 : RI w v1 a) (h2 : RI w v2 b) (ha : rl a ≤ 536870912) (hb : rl b ≤ 536870912) :
    Calls Tryz.prog 90 #[v1, v2] w fun e w' => ∃ v, e = .returned v ∧ RI w' v (Int.gcd a b : Int) ∧ Up w w' := by
  have H1 := Lib.hid h1
  have H2 := Lib.hid h2
  obtain ⟨s, g, A, n, c, rfl, -, -, -, -⟩ := h1.open_
  obtain ⟨s2, g2, A2, n2, c2, rfl, -, -, -, -⟩ := h2.open_
  obtain ⟨G, hG⟩ : ∃ G : Nat, G = Int.gcd a b := ⟨_, rfl⟩
  rw [← hG]
  have HG := Lib.hid hG
  have HA := Lib.hid (And.intro ha hb)
  clear h1 h2 ha hb hG
  go_enter Tryz.func90, Tryz.ntmps90
  go_wp2
  obtain ⟨wB, hwB, hc1, hc2, hr, hu0⟩ := startII w s g (.slice A n c) s2 g2 (.slice A2 n2 c2)
  rw [hwB]
  clear hwB
  have H0 : Hid (GcdRel w G b.natAbs wB) := ⟨a, b, s, s2, g, g2, A, A2, n, c, n2, c2, rfl, hc1, H1.out.up hu0, hc2, H2.out.up hu0, hr, HG.out.symm, HA.out.1, HA.out.2, hu0⟩
  clear hc1 hc2 hr hu0
  go_loopg [] b.natAbs (fun k wr => GcdRel w G k wr)
  case atStart => exact H0.out
  case round =>
    obtain ⟨x, y, sx, sy, bx, by_, Ax, Ay, nx, cx, ny, cy, rfl, hcx, hrx, hcy, hry, hrs, hgc, hlx, hly, hup⟩ := hrel
    have HSY := Lib.hid (refSign_any _ y wr hry)
    have HCX := Lib.hid hcx
    have HRX := Lib.hid hrx
    have HCY := Lib.hid hcy
    have HRY := Lib.hid hry
    have HRS := Lib.hid hrs
    have HGC := Lib.hid hgc
    have HL := Lib.hid (And.intro hlx hly)
    have HU := Lib.hid hup
    obtain ⟨b0, b1, b2, lb⟩ := hcy.facts
    clear hcx hrx hcy hry hrs hgc hlx hly hup H0 H1 H2
    by_cases h0 : y = 0
    · subst h0
      rw [Int.sign_zero] at HSY
      go_wp2_with fail
      refine Calls.mono HSY.out ?_
      rintro e w1 ⟨rfl, hu1⟩
      have HU1 := Lib.hid hu1
      clear hu1
      obtain ⟨a0, a1, a2, la⟩ := (HCX.out.up HU1.out).facts
      go_wp2_with fail
      refine Calls.mono (refAbs_any _ x w1 (HRX.out.up HU1.out)) ?_
      rintro e w5 ⟨v5, rfl, hv5, hu5⟩
      have HU5 := Lib.hid hu5
      have HV5 := Lib.hid hv5
      clear hu5
      have HR5 := Lib.hid (HRS.out.up (w' := w5) (HU1.out.trans HU5.out))
      obtain ⟨s3, g3, A3, n3, c3, rfl, -⟩ := hv5
      obtain ⟨r0, r1, r2, f0, f1, f2, lr⟩ := HR5.out.facts
      have HRES := Lib.hid (HV5.out.put HR5.out (.int .i64 s3) (.bool g3) (.slice A3 n3 c3))
      have HF := Lib.hid (HR5.out.stored (.int .i64 s3) (.bool g3) (.slice A3 n3 c3))
      have HUF := Lib.hid (((HU.out.trans HU1.out).trans HU5.out).put3 (show w.heap.size ≤ w.heap.size + 1 + 1 by omega) (.int .i64 s3) (.bool g3) (.slice A3 n3 c3))
      go_wp2
      obtain ⟨z0, z1, z2⟩ := HF.out
      refine bodyPost_ret (by simp [results, Tryz.results90, go_sem, z0, z1, z2]; try rfl) rfl ?_
      refine ⟨_, rfl, ?_, HUF.out⟩
      have h9 := HRES.out
      have h10 := HGC.out
      rw [Int.gcd_zero_right] at h10
      rw [h10] at h9
      exact h9
    · obtain ⟨sg, hsg⟩ : ∃ sg : Int, sg = y.sign := ⟨_, rfl⟩
      rw [← hsg] at HSY
      have hsg0 : ¬ sg = 0 := by rw [hsg]; exact fun h => h0 (Int.sign_eq_zero_iff_zero.1 h)
      have HY0 := Lib.hid h0
      clear hsg h0
      go_wp2_with fail
      refine Calls.mono HSY.out ?_
      rintro e w1 ⟨rfl, hu1⟩
      have HU1 := Lib.hid hu1
      clear hu1
      obtain ⟨a0, a1, a2, la⟩ := (HCX.out.up HU1.out).facts
      obtain ⟨b0, b1, b2, lb⟩ := (HCY.out.up HU1.out).facts
      go_wp2_with fail
      refine Calls.mono (refOver_any _ _ x y w1 (HRX.out.up HU1.out) (HRY.out.up HU1.out) HY0.out HL.out.1) ?_
      rintro e w2 ⟨q, r, rfl, hq, hr2, hu2⟩
      have HU2 := Lib.hid (HU1.out.trans hu2)
      have HR2 := Lib.hid hr2
      obtain ⟨sq, gq, Aq, nq, cq, rfl, -⟩ := hq
      obtain ⟨s5, g5, A5, n5, c5, rfl, -⟩ := hr2
      clear hu2 a0 a1 a2 la b0 b1 b2 lb
      go_upto_region 3 with fail
      obtain ⟨wX, hwX⟩ : ∃ wX, wX = (w2.alloc (.cells #[.int .i64 sq, .bool gq, .slice Aq nq cq] 48)).alloc (.cells #[.int .i64 s5, .bool g5, .slice A5 n5 c5] 48) := ⟨_, rfl⟩
      have hux : Up w2 wX := by rw [hwX]; exact (Up.alloc _ _).trans (Up.alloc _ _)
      have hcr : CellI wX (w2.heap.size + 1) s5 g5 (.slice A5 n5 c5) := by
        rw [hwX]
        have := CellI.new (w2.alloc (.cells #[.int .i64 sq, .bool gq, .slice Aq nq cq] 48)) s5 g5 (.slice A5 n5 c5)
        simpa using this
      rw [← hwX]
      clear hwX
      have hcx := HCX.out.up (HU2.out.trans hux)
      have hcy := HCY.out.up (HU2.out.trans hux)
      have hry := HRY.out.up (HU2.out.trans hux)
      have hrr := HR2.out.up hux
      have hlt : w.heap.size + 1 + 1 < w2.heap.size := (HRS.out.up HU2.out).lt
      have hn1 : w.heap.size ≠ w.heap.size + 1 := by omega
      have HF1 := Lib.hid (((hcx.set sy by_ (.slice Ay ny cy)).far hn1 (.int .i64 s5) (.bool g5) (.slice A5 n5 c5)))
      have HF2 := Lib.hid (((hcy.far (Ne.symm hn1) (.int .i64 sy) (.bool by_) (.slice Ay ny cy)).set s5 g5 (.slice A5 n5 c5)))
      have HF3 := Lib.hid ((hry.putI hcx (.int .i64 sy) (.bool by_) (.slice Ay ny cy)).putI (hcy.far (Ne.symm hn1) (.int .i64 sy) (.bool by_) (.slice Ay ny cy)) (.int .i64 s5) (.bool g5) (.slice A5 n5 c5))
      have HF4 := Lib.hid ((hrr.putI hcx (.int .i64 sy) (.bool by_) (.slice Ay ny cy)).putI (hcy.far (Ne.symm hn1) (.int .i64 sy) (.bool by_) (.slice Ay ny cy)) (.int .i64 s5) (.bool g5) (.slice A5 n5 c5))
      have HF5 := Lib.hid (((HRS.out.up (HU2.out.trans hux)).far (show w.heap.size + 1 + 1 ≠ w.heap.size by omega) (.int .i64 sy) (.bool by_) (.slice Ay ny cy)).far (show w.heap.size + 1 + 1 ≠ w.heap.size + 1 by omega) (.int .i64 s5) (.bool g5) (.slice A5 n5 c5))
      have HF6 := Lib.hid ((((HU.out.trans HU2.out).trans hux).put3 (show w.heap.size ≤ w.heap.size by omega) (.int .i64 sy) (.bool by_) (.slice Ay ny cy)).put3 (show w.heap.size ≤ w.heap.size + 1 by omega) (.int .i64 s5) (.bool g5) (.slice A5 n5 c5))
      obtain ⟨a0, a1, a2, la⟩ := hcx.facts
      obtain ⟨b0, b1, b2, lb⟩ := hcy.facts
      obtain ⟨r0, r1, r2, lr⟩ := hcr.facts
      have fa0 := hcx.frozen 0
      have fa1 := hcx.frozen 1
      have fa2 := hcx.frozen 2
      have fb0 := hcy.frozen 0
      have fb1 := hcy.frozen 1
      have fb2 := hcy.frozen 2
      have hne1 : (w.heap.size = w2.heap.size + 1) = False := by simp; omega
      have hne2 : (w2.heap.size + 1 = w.heap.size) = False := by simp; omega
      have hne3 : (w.heap.size + 1 = w2.heap.size + 1) = False := by simp; omega
      have hne4 : (w2.heap.size + 1 = w.heap.size + 1) = False := by simp; omega
      clear hcx hcy hry hrr hcr hux hn1
      go_region
      go_wp2
      go_roundg (x.tmod y).natAbs
      case rel =>
        refine ⟨y, x.tmod y, sy, s5, by_, g5, Ay, A5, ny, cy, n5, c5, rfl, HF1.out.up (Up.drew _), HF3.out.up (Up.drew _), HF2.out.up (Up.drew _), HF4.out.up (Up.drew _), HF5.out.up (Up.drew _), ?_, HL.out.2, ?_, HF6.out.trans (Up.drew _)⟩
        · rw [← HGC.out, Int.gcd, Int.gcd, Int.natAbs_tmod, Nat.gcd_comm, ← Nat.gcd_rec, Nat.gcd_comm]
        · have h1 : (x.tmod y).natAbs ≤ x.natAbs := by rw [Int.natAbs_tmod]; exact Nat.mod_le _ _
          exact Nat.le_trans (digs_len_le h1) HL.out.1
      case measure =>
        rw [Int.natAbs_tmod]
        exact Nat.mod_lt _ (by have := HY0.out; omega)
end Go.Proofs.YtacbjbnocepnaaaGreatDoor

/- Contracts of the sum of products. -/
import Derived.Test.YtgcmogldiahdpaaGreatDoorQGS
import Derived.Deep.RegionHeld3
import Derived.IntWalk
namespace Go.Proofs.YtgcmogldiahdpaaGreatDoor
open Go.RowKit Fm
theorem one_facts {w : World} {b off : Nat} {x y : Int} (h : RdN w (some ⟨b, off, none⟩) [(x, y)]) : w.cell? ⟨b, off, none⟩ = some (.int .i64 x) ∧ w.cell? ⟨b, off + 1, none⟩ = some (.int .i64 y) ∧ b < w.heap.size := by
  obtain ⟨b', off', hA, hb, hc⟩ := h (by simp)
  cases hA
  have := hc 0 (by simp)
  exact ⟨this.1, this.2, hb⟩

set_option maxHeartbeats 4000000 in
set_option maxRecDepth 10000 in
theorem products_two (b b2 off off2 n h c d : Nat) (qa qb q : Rat) (w : World) (hc : n ≤ c) (hd : n ≤ d) (hn : n ≤ 1000000) (h2 : 2 ≤ n) (hh : h = n / 2)
    (HR1 : Hid (∀ W, Up w W → Calls Tryz.prog 140 #[.slice (some ⟨b, off, none⟩) h c, .slice (some ⟨b2, off2, none⟩) h d] W fun e w' => ∃ v, e = .returned v ∧ FV w' v qa ∧ Up W w'))
    (HR2 : Hid (∀ W, Up w W → Calls Tryz.prog 140 #[.slice (some ⟨b, off + h * 2, none⟩) (n - h) (c - h), .slice (some ⟨b2, off2 + h * 2, none⟩) (n - h) (d - h)] W fun e w' => ∃ v, e = .returned v ∧ FV w' v qb ∧ Up W w'))
    (HP : Hid (∀ W u1 u2, Up w W → FV W u1 qa → FV W u2 qb → Calls Tryz.prog 112 #[u1, u2] W fun e w' => ∃ v, e = .returned v ∧ FV w' v q ∧ Up W w')) :
    Calls Tryz.prog 140 #[.slice (some ⟨b, off, none⟩) n c, .slice (some ⟨b2, off2, none⟩) n d] w fun e w' => ∃ v, e = .returned v ∧ FV w' v q ∧ Up w w' := by
  have hn0 : ((n : Int) == 0) = false := by simp; omega
  have hn1 : ((n : Int) == 1) = false := by simp; omega
  have hq : (n : Int).tdiv 2 = (h : Int) := by rw [Int.tdiv_eq_ediv_of_nonneg (by omega)]; omega
  have hln : h ≤ n := by omega
  have hlc : h ≤ c := by omega
  have hld : h ≤ d := by omega
  have i0 : (0 : Int) ≤ (h : Int) := by omega
  have i1 : (h : Int) ≤ (n : Int) := by omega
  have i2 : (h : Int) ≤ (c : Int) := by omega
  have i3 : (h : Int) ≤ (d : Int) := by omega
  have i4 : (n : Int) ≤ (c : Int) := by omega
  have i5 : (n : Int) ≤ (d : Int) := by omega
  have hq2 : (n : Int) / 2 = (h : Int) := by omega
  have i6 : (0 : Int) ≤ (n : Int) := by omega
  have iw2 : IntKind.i64.wrap (h : Int) = (h : Int) := IntWalk.i64_in _ (by omega)
  have iw3 : IntKind.i64.wrap ((n : Int) / 2) = (h : Int) := by rw [hq2]; exact iw2
  have iw4 : wrap64 (h : Int) = (h : Int) := by unfold wrap64; omega
  have iw : IntKind.i64.wrap ((n : Int).tdiv 2) = (h : Int) := by rw [hq]; exact IntWalk.i64_in _ (by omega)
  clear hh
  go_enter Tryz.func140, Tryz.ntmps140
  go_upto_region 3 with fail
  have HU := Lib.hid (Up.alloc w (.cells #[.int .i64 0, .slice none 0 0, .int .i64 0, .slice none 0 0] 100))
  have HRS := Lib.hid (Res4.new w)
  generalize w.alloc (.cells #[.int .i64 0, .slice none 0 0, .int .i64 0, .slice none 0 0] 100) = wB at *
  go_region_held3 (fun _ => True) (trivial)
    ((first
      | (go_at_call 112
         refine Calls.mono (HP.out _ _ _ (by (repeat (first | exact Below.refl _ _ | exact Go.RowKit.Hid.out (by assumption) | refine Up.trans ?_ (Up.drew _) | refine Up.trans ?_ (Up.drewN _ _) | refine Up.trans ?_ (Up.alloc _ _) | refine Up.trans ?_ (Go.RowKit.Hid.out (by assumption))))) (HVw1.out.up (by (repeat (first | exact Below.refl _ _ | exact Go.RowKit.Hid.out (by assumption) | refine Up.trans ?_ (Up.drew _) | refine Up.trans ?_ (Up.drewN _ _) | refine Up.trans ?_ (Up.alloc _ _) | refine Up.trans ?_ (Go.RowKit.Hid.out (by assumption)))))) (HVw2.out.up (by (repeat (first | exact Below.refl _ _ | exact Go.RowKit.Hid.out (by assumption) | refine Up.trans ?_ (Up.drew _) | refine Up.trans ?_ (Up.drewN _ _) | refine Up.trans ?_ (Up.alloc _ _) | refine Up.trans ?_ (Go.RowKit.Hid.out (by assumption))))))) ?_
         rintro e w3 ⟨v, rfl, hv, hu⟩
         have HU3 := Lib.hid hu
         have HV3 := Lib.hid hv
         obtain ⟨s5, A5, n5, c5, t5, F5, m5, k5, rfl, -, -⟩ := hv
         clear hu
         have HRS8 := Lib.hid (HRS.out.up (w' := w3) (by (repeat (first | exact Below.refl _ _ | exact Go.RowKit.Hid.out (by assumption) | refine Up.trans ?_ (Up.drew _) | refine Up.trans ?_ (Up.drewN _ _) | refine Up.trans ?_ (Up.alloc _ _) | refine Up.trans ?_ (Go.RowKit.Hid.out (by assumption))))))
         obtain ⟨r0, r1, r2, r3, f0', f1', f2', f3'⟩ := HRS8.out.facts)
      | (have HGUARD := HVw1; go_at_call 140
         refine Calls.mono (HR2.out _ (by (repeat (first | exact Below.refl _ _ | exact Go.RowKit.Hid.out (by assumption) | refine Up.trans ?_ (Up.drew _) | refine Up.trans ?_ (Up.drewN _ _) | refine Up.trans ?_ (Up.alloc _ _) | refine Up.trans ?_ (Go.RowKit.Hid.out (by assumption)))))) ?_
         rintro e w2 ⟨v, rfl, hv, hu⟩
         have HU2 := Lib.hid hu
         have HVw2 := Lib.hid hv
         clear hu hv)
      | (go_at_call 140
         refine Calls.mono (HR1.out _ (by (repeat (first | exact Below.refl _ _ | exact Go.RowKit.Hid.out (by assumption) | refine Up.trans ?_ (Up.drew _) | refine Up.trans ?_ (Up.drewN _ _) | refine Up.trans ?_ (Up.alloc _ _) | refine Up.trans ?_ (Go.RowKit.Hid.out (by assumption)))))) ?_
         rintro e w1 ⟨v, rfl, hv, hu⟩
         have HU1 := Lib.hid hu
         have HVw1 := Lib.hid hv
         clear hu hv)))
  have hq4 := HRS8.out.stored (.int .i64 s5) (.slice A5 n5 c5) (.int .i64 t5) (.slice F5 m5 k5)
  have HVF : Hid (FV (put4 w3 w.heap.size (.int .i64 s5) (.slice A5 n5 c5) (.int .i64 t5) (.slice F5 m5 k5)) (.agg #[.int .i64 s5, .slice A5 n5 c5, .int .i64 t5, .slice F5 m5 k5]) q) := Lib.hid (by
    obtain ⟨s6, A6, n6, c6, t6, F6, m6, k6, he, p1, p2⟩ := HV3.out
    exact ⟨s6, A6, n6, c6, t6, F6, m6, k6, he, p1.put4 HRS8.out _ _ _ _, p2.put4 HRS8.out _ _ _ _⟩)
  have HUF := Lib.hid ((show Up w w3 by (repeat (first | exact Below.refl _ _ | exact Go.RowKit.Hid.out (by assumption) | refine Up.trans ?_ (Up.drew _) | refine Up.trans ?_ (Up.drewN _ _) | refine Up.trans ?_ (Up.alloc _ _) | refine Up.trans ?_ (Go.RowKit.Hid.out (by assumption))))).put4 (show w.heap.size ≤ w.heap.size by omega) (.int .i64 s5) (.slice A5 n5 c5) (.int .i64 t5) (.slice F5 m5 k5))
  unfold put4 at hq4 HVF HUF
  obtain ⟨hq0, hq1, hq5, hq6⟩ := hq4
  go_wp2
  refine bodyPost_ret (by simp [results, Tryz.results140, go_sem, hq0, hq1, hq5, hq6]; try rfl) rfl ?_
  exact ⟨_, rfl, HVF.out, HUF.out⟩

theorem frac_done {w w3 : World} {g : Nat} {s5 : Int} {A5 : Option Addr} {n5 c5 : Nat} {t5 : Int} {F5 : Option Addr} {m5 k5 : Nat} {q : Rat} (hv : FV w3 (.agg #[.int .i64 s5, .slice A5 n5 c5, .int .i64 t5, .slice F5 m5 k5]) q) (hr : Res4 w3 g) (hu : Up w w3) (hg : w.heap.size ≤ g) :
    ((put4 w3 g (.int .i64 s5) (.slice A5 n5 c5) (.int .i64 t5) (.slice F5 m5 k5)).cell? ⟨g, 0, none⟩ = some (.int .i64 s5) ∧ (put4 w3 g (.int .i64 s5) (.slice A5 n5 c5) (.int .i64 t5) (.slice F5 m5 k5)).cell? ⟨g, 1, none⟩ = some (.slice A5 n5 c5) ∧
      (put4 w3 g (.int .i64 s5) (.slice A5 n5 c5) (.int .i64 t5) (.slice F5 m5 k5)).cell? ⟨g, 2, none⟩ = some (.int .i64 t5) ∧ (put4 w3 g (.int .i64 s5) (.slice A5 n5 c5) (.int .i64 t5) (.slice F5 m5 k5)).cell? ⟨g, 3, none⟩ = some (.slice F5 m5 k5)) ∧
    FV (put4 w3 g (.int .i64 s5) (.slice A5 n5 c5) (.int .i64 t5) (.slice F5 m5 k5)) (.agg #[.int .i64 s5, .slice A5 n5 c5, .int .i64 t5, .slice F5 m5 k5]) q ∧ Up w (put4 w3 g (.int .i64 s5) (.slice A5 n5 c5) (.int .i64 t5) (.slice F5 m5 k5)) := by
  refine ⟨hr.stored _ _ _ _, ?_, hu.put4 hg _ _ _ _⟩
  obtain ⟨s6, A6, n6, c6, t6, F6, m6, k6, he, p1, p2⟩ := hv
  exact ⟨s6, A6, n6, c6, t6, F6, m6, k6, he, p1.put4 hr _ _ _ _, p2.put4 hr _ _ _ _⟩

set_option maxHeartbeats 1000000 in
set_option maxRecDepth 10000 in
theorem products_zero (A B : Option Addr) (c d : Nat) (w : World) :
    Calls Tryz.prog 140 #[.slice A 0 c, .slice B 0 d] w fun e w' => ∃ v, e = .returned v ∧ FV w' v 0 ∧ Up w w' := by
  have HO := Lib.hid (fun W => fracOf_any 0 1 0 W rfl rfl (by omega) (by omega) (by omega) (by omega))
  go_enter Tryz.func140, Tryz.ntmps140
  go_wp2_with fail
  have HU := Lib.hid (Up.alloc w (.cells #[.int .i64 0, .slice none 0 0, .int .i64 0, .slice none 0 0] 100))
  have HRS := Lib.hid (Res4.new w)
  generalize w.alloc (.cells #[.int .i64 0, .slice none 0 0, .int .i64 0, .slice none 0 0] 100) = wB at *
  refine Calls.mono (HO.out _) ?_
  rintro e w3 ⟨v, rfl, hv, hu⟩
  have HU3 := Lib.hid hu
  have HV3 := Lib.hid hv
  obtain ⟨s5, A5, n5, c5, t5, F5, m5, k5, rfl, -, -⟩ := hv
  clear hu
  have HRS8 := Lib.hid (HRS.out.up (w' := w3) (by (repeat (first | exact Below.refl _ _ | exact Go.RowKit.Hid.out (by assumption) | refine Up.trans ?_ (Up.drew _) | refine Up.trans ?_ (Up.drewN _ _) | refine Up.trans ?_ (Up.alloc _ _) | refine Up.trans ?_ (Go.RowKit.Hid.out (by assumption))))))
  obtain ⟨r0, r1, r2, r3, f0', f1', f2', f3'⟩ := HRS8.out.facts
  obtain ⟨hq4, hvf, huf⟩ := frac_done HV3.out HRS8.out (show Up w w3 by (repeat (first | exact Below.refl _ _ | exact Go.RowKit.Hid.out (by assumption) | refine Up.trans ?_ (Up.drew _) | refine Up.trans ?_ (Up.drewN _ _) | refine Up.trans ?_ (Up.alloc _ _) | refine Up.trans ?_ (Go.RowKit.Hid.out (by assumption))))) (Nat.le_refl _)
  have HVF := Lib.hid hvf
  have HUF := Lib.hid huf
  clear hvf huf
  unfold put4 at hq4 HVF HUF
  obtain ⟨hq0, hq1, hq5, hq6⟩ := hq4
  go_wp2
  refine bodyPost_ret (by simp [results, Tryz.results140, go_sem, hq0, hq1, hq5, hq6]; try rfl) rfl ?_
  exact ⟨_, rfl, HVF.out, HUF.out⟩

set_option maxHeartbeats 4000000 in
set_option maxRecDepth 10000 in
theorem products_one (b b2 off off2 c d : Nat) (x1 y1 x2 y2 : Int) (w : World) (hk1 : okNum x1 y1 = true) (hk2 : okNum x2 y2 = true) (hr : RdN w (some ⟨b, off, none⟩) [(x1, y1)]) (hs : RdN w (some ⟨b2, off2, none⟩) [(x2, y2)]) (ht : Tab w) :
    Calls Tryz.prog 140 #[.slice (some ⟨b, off, none⟩) 1 c, .slice (some ⟨b2, off2, none⟩) 1 d] w fun e w' => ∃ v, e = .returned v ∧ FV w' v (ratOf x1 y1 * ratOf x2 y2) ∧ Up w w' := by
  have q1 := ok_bounds hk1
  have q2 := ok_bounds hk2
  obtain ⟨e1, e2⟩ := ratOf_ok hk1
  obtain ⟨e3, e4⟩ := ratOf_ok hk2
  have f1 := ok_FB hk1
  have f2 := ok_FB hk2
  have HO1 := Lib.hid (fun W => fracOf_any x1 y1 (ratOf x1 y1) W e1 e2 (by omega) (by omega) (by omega) (by omega))
  have HO2 := Lib.hid (fun W => fracOf_any x2 y2 (ratOf x2 y2) W e3 e4 (by omega) (by omega) (by omega) (by omega))
  have HP := Lib.hid (fun W u1 u2 (hu : Up w W) (k1 : FV W u1 (ratOf x1 y1)) (k2 : FV W u2 (ratOf x2 y2)) => fracTimes_any u1 u2 _ _ W k1 k2 f1 f2 (ht.up hu))
  generalize ratOf x1 y1 * ratOf x2 y2 = q at *
  generalize ratOf x1 y1 = qa at *
  generalize ratOf x2 y2 = qb at *
  clear q1 q2 e1 e2 e3 e4 f1 f2 hk1 hk2 ht
  have hbl := (one_facts hr).2.2
  have hbl2 := (one_facts hs).2.2
  go_enter Tryz.func140, Tryz.ntmps140
  go_upto_region 7 with fail
  have HU := Lib.hid (Up.alloc w (.cells #[.int .i64 0, .slice none 0 0, .int .i64 0, .slice none 0 0] 100))
  have HRS := Lib.hid (Res4.new w)
  generalize w.alloc (.cells #[.int .i64 0, .slice none 0 0, .int .i64 0, .slice none 0 0] 100) = wB at *
  have HRA := Lib.hid (hr.up (w' := wB) HU.out)
  have HRB := Lib.hid (hs.up (w' := wB) HU.out)
  clear hr hs
  obtain ⟨a0, a1, la⟩ := one_facts HRA.out
  obtain ⟨b0, b1, lb⟩ := one_facts HRB.out
  have hne1 : (b = w.heap.size) = False := eq_false (by omega)
  have hne2 : (w.heap.size = b) = False := eq_false (by omega)
  have hne3 : (b2 = w.heap.size) = False := eq_false (by omega)
  have hne4 : (w.heap.size = b2) = False := eq_false (by omega)
  clear hbl hbl2
  go_region_held3 (fun w' => w'.cell? ⟨b, off, none⟩ = some (.int .i64 x1) ∧ w'.cell? ⟨b, off + 1, none⟩ = some (.int .i64 y1) ∧ w'.cell? ⟨b2, off2, none⟩ = some (.int .i64 x2) ∧ w'.cell? ⟨b2, off2 + 1, none⟩ = some (.int .i64 y2)) (go_keep)
    ((first
      | (go_at_call 188
         refine Calls.mono (HP.out _ _ _ (by (repeat (first | exact Below.refl _ _ | exact Go.RowKit.Hid.out (by assumption) | refine Up.trans ?_ (Up.drew _) | refine Up.trans ?_ (Up.drewN _ _) | refine Up.trans ?_ (Up.alloc _ _) | refine Up.trans ?_ (Go.RowKit.Hid.out (by assumption))))) (HVw1.out.up (by (repeat (first | exact Below.refl _ _ | exact Go.RowKit.Hid.out (by assumption) | refine Up.trans ?_ (Up.drew _) | refine Up.trans ?_ (Up.drewN _ _) | refine Up.trans ?_ (Up.alloc _ _) | refine Up.trans ?_ (Go.RowKit.Hid.out (by assumption)))))) (HVw2.out.up (by (repeat (first | exact Below.refl _ _ | exact Go.RowKit.Hid.out (by assumption) | refine Up.trans ?_ (Up.drew _) | refine Up.trans ?_ (Up.drewN _ _) | refine Up.trans ?_ (Up.alloc _ _) | refine Up.trans ?_ (Go.RowKit.Hid.out (by assumption))))))) ?_
         rintro e w3 ⟨v, rfl, hv, hu⟩
         have HU3 := Lib.hid hu
         have HV3 := Lib.hid hv
         obtain ⟨s5, A5, n5, c5, t5, F5, m5, k5, rfl, -, -⟩ := hv
         clear hu
         have HRS8 := Lib.hid (HRS.out.up (w' := w3) (by (repeat (first | exact Below.refl _ _ | exact Go.RowKit.Hid.out (by assumption) | refine Up.trans ?_ (Up.drew _) | refine Up.trans ?_ (Up.drewN _ _) | refine Up.trans ?_ (Up.alloc _ _) | refine Up.trans ?_ (Go.RowKit.Hid.out (by assumption))))))
         obtain ⟨r0, r1, r2, r3, f0', f1', f2', f3'⟩ := HRS8.out.facts
         obtain ⟨a0, a1, la⟩ := one_facts (HRA.out.up (w' := w3) (by (repeat (first | exact Below.refl _ _ | exact Go.RowKit.Hid.out (by assumption) | refine Up.trans ?_ (Up.drew _) | refine Up.trans ?_ (Up.drewN _ _) | refine Up.trans ?_ (Up.alloc _ _) | refine Up.trans ?_ (Go.RowKit.Hid.out (by assumption))))))
         obtain ⟨b0, b1, lb⟩ := one_facts (HRB.out.up (w' := w3) (by (repeat (first | exact Below.refl _ _ | exact Go.RowKit.Hid.out (by assumption) | refine Up.trans ?_ (Up.drew _) | refine Up.trans ?_ (Up.drewN _ _) | refine Up.trans ?_ (Up.alloc _ _) | refine Up.trans ?_ (Go.RowKit.Hid.out (by assumption)))))))
      | (have HGUARD := HVw1; go_at_call 113
         refine Calls.mono (HO2.out _) ?_
         rintro e w2 ⟨v, rfl, hv, hu⟩
         have HU2 := Lib.hid hu
         have HVw2 := Lib.hid hv
         clear hu hv
         obtain ⟨a0, a1, la⟩ := one_facts (HRA.out.up (w' := w2) (by (repeat (first | exact Below.refl _ _ | exact Go.RowKit.Hid.out (by assumption) | refine Up.trans ?_ (Up.drew _) | refine Up.trans ?_ (Up.drewN _ _) | refine Up.trans ?_ (Up.alloc _ _) | refine Up.trans ?_ (Go.RowKit.Hid.out (by assumption))))))
         obtain ⟨b0, b1, lb⟩ := one_facts (HRB.out.up (w' := w2) (by (repeat (first | exact Below.refl _ _ | exact Go.RowKit.Hid.out (by assumption) | refine Up.trans ?_ (Up.drew _) | refine Up.trans ?_ (Up.drewN _ _) | refine Up.trans ?_ (Up.alloc _ _) | refine Up.trans ?_ (Go.RowKit.Hid.out (by assumption)))))))
      | (go_at_call 113
         refine Calls.mono (HO1.out _) ?_
         rintro e w1 ⟨v, rfl, hv, hu⟩
         have HU1 := Lib.hid hu
         have HVw1 := Lib.hid hv
         clear hu hv
         obtain ⟨a0, a1, la⟩ := one_facts (HRA.out.up (w' := w1) (by (repeat (first | exact Below.refl _ _ | exact Go.RowKit.Hid.out (by assumption) | refine Up.trans ?_ (Up.drew _) | refine Up.trans ?_ (Up.drewN _ _) | refine Up.trans ?_ (Up.alloc _ _) | refine Up.trans ?_ (Go.RowKit.Hid.out (by assumption))))))
         obtain ⟨b0, b1, lb⟩ := one_facts (HRB.out.up (w' := w1) (by (repeat (first | exact Below.refl _ _ | exact Go.RowKit.Hid.out (by assumption) | refine Up.trans ?_ (Up.drew _) | refine Up.trans ?_ (Up.drewN _ _) | refine Up.trans ?_ (Up.alloc _ _) | refine Up.trans ?_ (Go.RowKit.Hid.out (by assumption)))))))))
  obtain ⟨hq4, hvf, huf⟩ := frac_done HV3.out HRS8.out (show Up w w3 by (repeat (first | exact Below.refl _ _ | exact Go.RowKit.Hid.out (by assumption) | refine Up.trans ?_ (Up.drew _) | refine Up.trans ?_ (Up.drewN _ _) | refine Up.trans ?_ (Up.alloc _ _) | refine Up.trans ?_ (Go.RowKit.Hid.out (by assumption))))) (Nat.le_refl _)
  have HVF := Lib.hid hvf
  have HUF := Lib.hid huf
  clear hvf huf
  unfold put4 at hq4 HVF HUF
  obtain ⟨hq0, hq1, hq5, hq6⟩ := hq4
  go_wp2
  refine bodyPost_ret (by simp [results, Tryz.results140, go_sem, hq0, hq1, hq5, hq6]; try rfl) rfl ?_
  exact ⟨_, rfl, HVF.out, HUF.out⟩

theorem products_any (N : Nat) : ∀ (A B : Option Addr) (c d : Nat) (l m : List (Int × Int)) (w : World), l.length ≤ N → l.length = m.length → l.length ≤ c → l.length ≤ d → l.length ≤ 1000000 → RdN w A l → RdN w B m → okAll l = true → okAll m = true → Tab w →
    Calls Tryz.prog 140 #[.slice A l.length c, .slice B l.length d] w fun e w' => ∃ v, e = .returned v ∧ FV w' v (dotQ l m) ∧ Up w w' := by
  induction N with
  | zero =>
    intro A B c d l m w hN hlm hc hd hn hr hs hl hm ht
    cases l with
    | nil => cases m with
      | nil => exact products_zero A B c d w
      | cons q qs => simp at hlm
    | cons p ps => simp at hN
  | succ N ih =>
    intro A B c d l m w hN hlm hc hd hn hr hs hl hm ht
    rcases Nat.lt_or_ge l.length 2 with h2 | h2
    · match l, m, hlm with
      | [], [], _ => exact products_zero A B c d w
      | [p], [q], _ =>
        obtain ⟨b, off, rfl, -⟩ := hr (by simp)
        obtain ⟨b2, off2, rfl, -⟩ := hs (by simp)
        have h := products_one b b2 off off2 c d p.1 p.2 q.1 q.2 w (okAll_get hl (k := 0) (by simp)) (okAll_get hm (k := 0) (by simp)) hr hs ht
        have e : dotQ [p] [q] = ratOf p.1 p.2 * ratOf q.1 q.2 := by simp [dotQ, Rat.add_zero]
        rw [e]
        exact h
      | _ :: _ :: _, _, _ => simp only [List.length_cons] at h2; omega
    · obtain ⟨b, off, rfl, -⟩ := hr (by intro e; subst e; simp at h2)
      obtain ⟨b2, off2, rfl, -⟩ := hs (by intro e; rw [e] at hlm; simp only [List.length_nil] at hlm; omega)
      have hsp := dotQ_split l m (l.length / 2) hlm
      have ht1 : (l.take (l.length / 2)).length = l.length / 2 := by rw [List.length_take]; omega
      have ht2 : (m.take (l.length / 2)).length = l.length / 2 := by rw [List.length_take]; omega
      have hd1 : (l.drop (l.length / 2)).length = l.length - l.length / 2 := by rw [List.length_drop]
      have hd2 : (m.drop (l.length / 2)).length = l.length - l.length / 2 := by rw [List.length_drop, hlm]
      refine products_two b b2 off off2 l.length (l.length / 2) c d (dotQ (l.take (l.length / 2)) (m.take (l.length / 2))) (dotQ (l.drop (l.length / 2)) (m.drop (l.length / 2))) (dotQ l m) w hc hd hn h2 rfl
        (Lib.hid fun W hu => ?_) (Lib.hid fun W hu => ?_) (Lib.hid fun W u1 u2 hu k1 k2 => ?_)
      · have h := ih (some ⟨b, off, none⟩) (some ⟨b2, off2, none⟩) c d (l.take (l.length / 2)) (m.take (l.length / 2)) W (by rw [ht1]; omega) (by rw [ht1, ht2]) (by rw [ht1]; omega) (by rw [ht1]; omega) (by rw [ht1]; omega) ((hr.up hu).take _) ((hs.up hu).take _) (okAll_take _ hl) (okAll_take _ hm) (ht.up hu)
        rw [ht1] at h
        exact h
      · have h := ih (some ⟨b, off + l.length / 2 * 2, none⟩) (some ⟨b2, off2 + l.length / 2 * 2, none⟩) (c - l.length / 2) (d - l.length / 2) (l.drop (l.length / 2)) (m.drop (l.length / 2)) W (by rw [hd1]; omega) (by rw [hd1, hd2]) (by rw [hd1]; omega) (by rw [hd1]; omega) (by rw [hd1]; omega) ((hr.up hu).drop _) ((hs.up hu).drop _) (okAll_drop _ hl) (okAll_drop _ hm) (ht.up hu)
        rw [hd1] at h
        exact h
      · have b1 := dotQ_FB (l.take (l.length / 2)) (m.take (l.length / 2)) (by rw [ht1, ht2]) (okAll_take _ hl) (okAll_take _ hm)
        have b2 := dotQ_FB (l.drop (l.length / 2)) (m.drop (l.length / 2)) (by rw [hd1, hd2]) (okAll_drop _ hl) (okAll_drop _ hm)
        rw [ht1] at b1
        rw [hd1] at b2
        rw [← hsp]
        exact fracPlus_any u1 u2 _ _ W k1 k2 (b1.mono (by omega)) (b2.mono (by omega)) (ht.up hu)
end Go.Proofs.YtgcmogldiahdpaaGreatDoor
namespace Go.Proofs.YtgcmogldiahdpaaGreatDoor
open Go.RowKit Fm

set_option maxHeartbeats 2000000 in
set_option maxRecDepth 10000 in
theorem numDot_ok (A B : Option Addr) (c d n : Nat) (q : Rat) (X Y E : Int) (w : World)
    (HV1 : Hid (∀ W, Up w W → Calls Tryz.prog 139 #[.slice A n c] W fun e w' => e = .returned (.bool true) ∧ Up W w'))
    (HV2 : Hid (∀ W, Up w W → Calls Tryz.prog 139 #[.slice B n d] W fun e w' => e = .returned (.bool true) ∧ Up W w'))
    (HP : Hid (∀ W, Up w W → Calls Tryz.prog 140 #[.slice A n c, .slice B n d] W fun e w' => ∃ v, e = .returned v ∧ FV w' v q ∧ Up W w'))
    (HL : Hid (∀ W u, FV W u q → Calls Tryz.prog 66 #[u] W fun e w' => e = .returned (.tuple #[.agg #[.int .i64 X, .int .i64 Y], .int .i64 E]) ∧ Up W w')) :
    Calls Tryz.prog 74 #[.slice A n c, .slice B n d] w fun e w' => e = .returned (.tuple #[.agg #[.int .i64 X, .int .i64 Y], .int .i64 E]) ∧ Up w w' := by
  go_enter Tryz.func74, Tryz.ntmps74
  go_wp2_with fail
  have HR := Lib.hid (CellN.new w 0 0)
  have HU := Lib.hid (Up.alloc w (.cells #[.int .i64 0, .int .i64 0] 23))
  generalize w.alloc (.cells #[.int .i64 0, .int .i64 0] 23) = wB at *
  refine Calls.mono (HV1.out _ (by (repeat (first | exact Below.refl _ _ | exact Go.RowKit.Hid.out (by assumption) | refine Up.trans ?_ (Up.drew _) | refine Up.trans ?_ (Up.drewN _ _) | refine Up.trans ?_ (Up.alloc _ _) | refine Up.trans ?_ (Go.RowKit.Hid.out (by assumption)))))) ?_
  rintro e w1 ⟨rfl, hu⟩
  have HU1 := Lib.hid hu
  clear hu
  go_wp2_with fail
  refine Calls.mono (HV2.out _ (by (repeat (first | exact Below.refl _ _ | exact Go.RowKit.Hid.out (by assumption) | refine Up.trans ?_ (Up.drew _) | refine Up.trans ?_ (Up.drewN _ _) | refine Up.trans ?_ (Up.alloc _ _) | refine Up.trans ?_ (Go.RowKit.Hid.out (by assumption)))))) ?_
  rintro e w2 ⟨rfl, hu⟩
  have HU2 := Lib.hid hu
  clear hu
  go_wp2_with fail
  refine Calls.mono (HP.out _ (by (repeat (first | exact Below.refl _ _ | exact Go.RowKit.Hid.out (by assumption) | refine Up.trans ?_ (Up.drew _) | refine Up.trans ?_ (Up.drewN _ _) | refine Up.trans ?_ (Up.alloc _ _) | refine Up.trans ?_ (Go.RowKit.Hid.out (by assumption)))))) ?_
  rintro e w3 ⟨v, rfl, hv, hu⟩
  have HU3 := Lib.hid hu
  have HV3 := Lib.hid hv
  clear hu hv
  go_wp2_with fail
  refine Calls.mono (HL.out _ _ HV3.out) ?_
  rintro e w4 ⟨rfl, hu⟩
  have HU4 := Lib.hid hu
  clear hu
  have HR8 := Lib.hid (HR.out.up (w' := w4) (by (repeat (first | exact Below.refl _ _ | exact Go.RowKit.Hid.out (by assumption) | refine Up.trans ?_ (Up.drew _) | refine Up.trans ?_ (Up.drewN _ _) | refine Up.trans ?_ (Up.alloc _ _) | refine Up.trans ?_ (Go.RowKit.Hid.out (by assumption))))))
  obtain ⟨r0, r1, g0, g1, lr⟩ := HR8.out.facts
  have HFF := Lib.hid ((HR8.out.set X Y).facts)
  have HUF := Lib.hid ((show Up w w4 by (repeat (first | exact Below.refl _ _ | exact Go.RowKit.Hid.out (by assumption) | refine Up.trans ?_ (Up.drew _) | refine Up.trans ?_ (Up.drewN _ _) | refine Up.trans ?_ (Up.alloc _ _) | refine Up.trans ?_ (Go.RowKit.Hid.out (by assumption))))).stored (show w.heap.size ≤ w.heap.size by omega) (.int .i64 X) (.int .i64 Y))
  go_wp2
  obtain ⟨z0, z1, -, -, -⟩ := HFF.out
  refine bodyPost_ret (by simp [results, Tryz.results74, go_sem, z0, z1]; try rfl) rfl ?_
  exact ⟨rfl, HUF.out⟩

end Go.Proofs.YtgcmogldiahdpaaGreatDoor

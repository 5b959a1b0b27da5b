/- Walks of a law. -/
import Derived.Test.YtimlainffbpfdaaGreatDoorGQ
import Derived.Test.YtimlainffbpfdaaGreatDoorGI
namespace Go.Proofs.YtimlainffbpfdaaGreatDoor
open Go.RowKit Fm

theorem startN2 (w : World) (x1 y1 x2 y2 : Int) :
    ∃ wB, (w.alloc (.cells #[.int .i64 x1, .int .i64 y1] 23)).alloc (.cells #[.int .i64 x2, .int .i64 y2] 23) = wB ∧ CellN wB w.heap.size x1 y1 ∧ CellN wB (w.heap.size + 1) x2 y2 ∧ Up w wB ∧ w.heap.size + 1 + 1 = wB.heap.size := by
  refine ⟨_, rfl, (CellN.new w x1 y1).up (Up.alloc _ _), ?_, (Up.alloc _ _).trans (Up.alloc _ _), by simp⟩
  have := CellN.new (w.alloc (.cells #[.int .i64 x1, .int .i64 y1] 23)) x2 y2; simpa using this
theorem startAll3 (w : World) (x1 y1 x2 y2 : Int) (h1 : Rng x1 y1) (h2 : Rng x2 y2) :
    ∃ wB, ((w.alloc (.cells #[.int .i64 x1, .int .i64 y1] 23)).alloc (.cells #[.int .i64 x2, .int .i64 y2] 23)).alloc (.cells #[.int .i64 x1, .int .i64 y1, .int .i64 x2, .int .i64 y2] 23) = wB ∧
      CellN wB w.heap.size x1 y1 ∧ CellN wB (w.heap.size + 1) x2 y2 ∧ Up w wB ∧
      Calls Tryz.prog 24 #[.slice (some ⟨w.heap.size + 1 + 1, 0, none⟩) 2 2] wB fun e w' => e = .returned (.bool (okNum x1 y1 && okNum x2 y2)) ∧ Up wB w' := by
  obtain ⟨wA, hA, a1, a2, a4, hs⟩ := startN2 w x1 y1 x2 y2
  rw [hA]
  exact ⟨_, rfl, a1.up (Up.alloc _ _), a2.up (Up.alloc _ _), a4.trans (Up.alloc _ _), two_all wA x1 y1 x2 y2 h1 h2 _ hs⟩

set_option maxHeartbeats 8000000 in
set_option maxRecDepth 10000 in
theorem refAdd_arg (x1 y1 x2 y2 : Int) (w : World) (h1 : Rng x1 y1) (h2 : Rng x2 y2) (hk : (okNum x1 y1 && okNum x2 y2) = false) :
    Calls Tryz.prog 6 #[.agg #[.int .i64 x1, .int .i64 y1], .agg #[.int .i64 x2, .int .i64 y2]] w fun e w' => e = .returned (.tuple #[.agg #[.int .i64 0, .int .i64 0], .int .i64 1]) ∧ Up w w' := by
  obtain ⟨wB, hwB, hn1, hn2, hr, hu0, hall⟩ := startAll w x1 y1 x2 y2 h1 h2
  rw [hk] at hall
  have HALL := Lib.hid hall
  have HN1 := Lib.hid hn1
  have HN2 := Lib.hid hn2
  have HR := Lib.hid hr
  have HU := Lib.hid hu0
  have HWB := Lib.hid hwB
  clear hk hall hn1 hn2 hr hu0 hwB
  go_enter Tryz.func6, Tryz.ntmps6
  go_wp2_with fail
  rw [HWB.out]
  refine Calls.mono HALL.out ?_
  rintro e w1 ⟨rfl, hu1⟩
  have HU1 := Lib.hid hu1
  clear hu1 HWB HALL
  have HR8 := Lib.hid (HR.out.up (w' := w1) (by (repeat (first | exact Below.refl _ _ | exact Go.RowKit.Hid.out (by assumption) | refine Up.trans ?_ (Up.drew _) | refine Up.trans ?_ (Up.drewN _ _) | refine Up.trans ?_ (Up.alloc _ _) | refine Up.trans ?_ (Go.RowKit.Hid.out (by assumption))))))
  obtain ⟨r0, r1, g0, g1, lr⟩ := HR8.out.facts
  have HFF := Lib.hid ((HR8.out.set 0 0).facts)
  have HUF := Lib.hid ((show Up w w1 by (repeat (first | exact Below.refl _ _ | exact Go.RowKit.Hid.out (by assumption) | refine Up.trans ?_ (Up.drew _) | refine Up.trans ?_ (Up.drewN _ _) | refine Up.trans ?_ (Up.alloc _ _) | refine Up.trans ?_ (Go.RowKit.Hid.out (by assumption))))).stored (show w.heap.size ≤ w.heap.size + 1 + 1 by omega) (.int .i64 0) (.int .i64 0))
  go_wp2
  obtain ⟨z0, z1, -, -, -⟩ := HFF.out
  refine bodyPost_ret (by simp [results, Tryz.results6, go_sem, z0, z1]; try rfl) rfl ?_
  exact ⟨rfl, HUF.out⟩

set_option maxHeartbeats 8000000 in
set_option maxRecDepth 10000 in
theorem refAdd_ok (x1 y1 x2 y2 : Int) (w : World) (hk1 : okNum x1 y1 = true) (hk2 : okNum x2 y2 = true) :
    Calls Tryz.prog 6 #[.agg #[.int .i64 x1, .int .i64 y1], .agg #[.int .i64 x2, .int .i64 y2]] w fun e w' => e = .returned (.tuple #[.agg #[.int .i64 (numX true (ratOf x1 y1 + ratOf x2 y2)), .int .i64 (numY true (ratOf x1 y1 + ratOf x2 y2))], .int .i64 (numE true (ratOf x1 y1 + ratOf x2 y2))]) ∧ Up w w' := by
  have h1 : Rng x1 y1 := by have := ok_bounds hk1; exact ⟨by omega, by omega, by omega, by omega⟩
  have h2 : Rng x2 y2 := by have := ok_bounds hk2; exact ⟨by omega, by omega, by omega, by omega⟩
  have hk : (okNum x1 y1 && okNum x2 y2) = true := by rw [hk1, hk2]; rfl
  have HTa := Lib.hid (fun W => refTo_q x1 y1 W hk1)
  have HTb := Lib.hid (fun W => refTo_q x2 y2 W hk2)
  have HOP := Lib.hid (fun W u1 u2 (k1 : RQ W u1 (ratOf x1 y1)) (k2 : RQ W u2 (ratOf x2 y2)) => refRatPlus_q u1 u2 _ _ 3 3 W k1 k2 (ok_QB hk1) (ok_QB hk2) (by omega))
  have HNUM := Lib.hid (fun W u (k : RQ W u (ratOf x1 y1 + ratOf x2 y2)) => refNum_q u _ W k)
  generalize (ratOf x1 y1 + ratOf x2 y2) = q at *
  generalize ratOf x1 y1 = qa at *
  generalize ratOf x2 y2 = qb at *
  generalize numX true q = X at *
  generalize numY true q = Y at *
  generalize numE true q = E at *
  clear hk1 hk2
  obtain ⟨wB, hwB, hn1, hn2, hr, hu0, hall⟩ := startAll w x1 y1 x2 y2 h1 h2
  rw [hk] at hall
  have HALL := Lib.hid hall
  have HN1 := Lib.hid hn1
  have HN2 := Lib.hid hn2
  have HR := Lib.hid hr
  have HU := Lib.hid hu0
  have HWB := Lib.hid hwB
  clear hk hall hn1 hn2 hr hu0 hwB
  go_enter Tryz.func6, Tryz.ntmps6
  go_wp2_with fail
  rw [HWB.out]
  refine Calls.mono HALL.out ?_
  rintro e w1 ⟨rfl, hu1⟩
  have HU1 := Lib.hid hu1
  clear hu1 HWB HALL
  obtain ⟨a0, a1, -, -, la⟩ := (HN1.out.up (w' := w1) (by (repeat (first | exact Below.refl _ _ | exact Go.RowKit.Hid.out (by assumption) | refine Up.trans ?_ (Up.drew _) | refine Up.trans ?_ (Up.drewN _ _) | refine Up.trans ?_ (Up.alloc _ _) | refine Up.trans ?_ (Go.RowKit.Hid.out (by assumption)))))).facts
  obtain ⟨b0, b1, -, -, lb⟩ := (HN2.out.up (w' := w1) (by (repeat (first | exact Below.refl _ _ | exact Go.RowKit.Hid.out (by assumption) | refine Up.trans ?_ (Up.drew _) | refine Up.trans ?_ (Up.drewN _ _) | refine Up.trans ?_ (Up.alloc _ _) | refine Up.trans ?_ (Go.RowKit.Hid.out (by assumption)))))).facts
  have hne1 : (w.heap.size = w.heap.size + 1 + 1) = False := by simp; omega
  have hne2 : (w.heap.size + 1 + 1 = w.heap.size) = False := by simp; omega
  go_upto_region 3 with fail
  go_region_held3 (fun w' => w'.cell? ⟨w.heap.size, 0, none⟩ = some (.int .i64 x1) ∧ w'.cell? ⟨w.heap.size, 1, none⟩ = some (.int .i64 y1) ∧ w'.cell? ⟨w.heap.size + 1, 0, none⟩ = some (.int .i64 x2) ∧ w'.cell? ⟨w.heap.size + 1, 1, none⟩ = some (.int .i64 y2)) (go_keep)
    ((first
      | (have HGUARD := HVw4; go_at_call 25
         refine Calls.mono (HNUM.out _ _ (HVw4.out.up (by (repeat (first | exact Below.refl _ _ | exact Go.RowKit.Hid.out (by assumption) | refine Up.trans ?_ (Up.drew _) | refine Up.trans ?_ (Up.drewN _ _) | refine Up.trans ?_ (Up.alloc _ _) | refine Up.trans ?_ (Go.RowKit.Hid.out (by assumption))))))) ?_
         rintro e w5 ⟨rfl, hu⟩
         have HUw5 := Lib.hid hu
         clear hu
         obtain ⟨a0, a1, -, -, la⟩ := (HN1.out.up (w' := w5) (by (repeat (first | exact Below.refl _ _ | exact Go.RowKit.Hid.out (by assumption) | refine Up.trans ?_ (Up.drew _) | refine Up.trans ?_ (Up.drewN _ _) | refine Up.trans ?_ (Up.alloc _ _) | refine Up.trans ?_ (Go.RowKit.Hid.out (by assumption)))))).facts
         obtain ⟨b0, b1, -, -, lb⟩ := (HN2.out.up (w' := w5) (by (repeat (first | exact Below.refl _ _ | exact Go.RowKit.Hid.out (by assumption) | refine Up.trans ?_ (Up.drew _) | refine Up.trans ?_ (Up.drewN _ _) | refine Up.trans ?_ (Up.alloc _ _) | refine Up.trans ?_ (Go.RowKit.Hid.out (by assumption)))))).facts
         have HR8 := Lib.hid (HR.out.up (w' := w5) (by (repeat (first | exact Below.refl _ _ | exact Go.RowKit.Hid.out (by assumption) | refine Up.trans ?_ (Up.drew _) | refine Up.trans ?_ (Up.drewN _ _) | refine Up.trans ?_ (Up.alloc _ _) | refine Up.trans ?_ (Go.RowKit.Hid.out (by assumption))))))
         obtain ⟨r0, r1, g0, g1, lr⟩ := HR8.out.facts)
      | (have HGUARD := HVw3; go_at_call 27
         refine Calls.mono (HOP.out _ _ _ (HVw2.out.up (by (repeat (first | exact Below.refl _ _ | exact Go.RowKit.Hid.out (by assumption) | refine Up.trans ?_ (Up.drew _) | refine Up.trans ?_ (Up.drewN _ _) | refine Up.trans ?_ (Up.alloc _ _) | refine Up.trans ?_ (Go.RowKit.Hid.out (by assumption)))))) (HVw3.out.up (by (repeat (first | exact Below.refl _ _ | exact Go.RowKit.Hid.out (by assumption) | refine Up.trans ?_ (Up.drew _) | refine Up.trans ?_ (Up.drewN _ _) | refine Up.trans ?_ (Up.alloc _ _) | refine Up.trans ?_ (Go.RowKit.Hid.out (by assumption))))))) ?_
         rintro e w4 ⟨v, rfl, hv, hu⟩
         have HUw4 := Lib.hid hu
         have HVw4 := Lib.hid hv
         clear hu hv
         obtain ⟨a0, a1, -, -, la⟩ := (HN1.out.up (w' := w4) (by (repeat (first | exact Below.refl _ _ | exact Go.RowKit.Hid.out (by assumption) | refine Up.trans ?_ (Up.drew _) | refine Up.trans ?_ (Up.drewN _ _) | refine Up.trans ?_ (Up.alloc _ _) | refine Up.trans ?_ (Go.RowKit.Hid.out (by assumption)))))).facts
         obtain ⟨b0, b1, -, -, lb⟩ := (HN2.out.up (w' := w4) (by (repeat (first | exact Below.refl _ _ | exact Go.RowKit.Hid.out (by assumption) | refine Up.trans ?_ (Up.drew _) | refine Up.trans ?_ (Up.drewN _ _) | refine Up.trans ?_ (Up.alloc _ _) | refine Up.trans ?_ (Go.RowKit.Hid.out (by assumption)))))).facts)
      | (have HGUARD := HVw2; go_at_call_of 26 (Value.agg #[.int .i64 x2, .int .i64 y2])
         refine Calls.mono (HTb.out _) ?_
         rintro e w3 ⟨v, rfl, hv, hu⟩
         have HUw3 := Lib.hid hu
         have HVw3 := Lib.hid hv
         clear hu hv
         obtain ⟨a0, a1, -, -, la⟩ := (HN1.out.up (w' := w3) (by (repeat (first | exact Below.refl _ _ | exact Go.RowKit.Hid.out (by assumption) | refine Up.trans ?_ (Up.drew _) | refine Up.trans ?_ (Up.drewN _ _) | refine Up.trans ?_ (Up.alloc _ _) | refine Up.trans ?_ (Go.RowKit.Hid.out (by assumption)))))).facts
         obtain ⟨b0, b1, -, -, lb⟩ := (HN2.out.up (w' := w3) (by (repeat (first | exact Below.refl _ _ | exact Go.RowKit.Hid.out (by assumption) | refine Up.trans ?_ (Up.drew _) | refine Up.trans ?_ (Up.drewN _ _) | refine Up.trans ?_ (Up.alloc _ _) | refine Up.trans ?_ (Go.RowKit.Hid.out (by assumption)))))).facts)
      | (go_at_call_of 26 (Value.agg #[.int .i64 x1, .int .i64 y1])
         refine Calls.mono (HTa.out _) ?_
         rintro e w2 ⟨v, rfl, hv, hu⟩
         have HUw2 := Lib.hid hu
         have HVw2 := Lib.hid hv
         clear hu hv
         obtain ⟨a0, a1, -, -, la⟩ := (HN1.out.up (w' := w2) (by (repeat (first | exact Below.refl _ _ | exact Go.RowKit.Hid.out (by assumption) | refine Up.trans ?_ (Up.drew _) | refine Up.trans ?_ (Up.drewN _ _) | refine Up.trans ?_ (Up.alloc _ _) | refine Up.trans ?_ (Go.RowKit.Hid.out (by assumption)))))).facts
         obtain ⟨b0, b1, -, -, lb⟩ := (HN2.out.up (w' := w2) (by (repeat (first | exact Below.refl _ _ | exact Go.RowKit.Hid.out (by assumption) | refine Up.trans ?_ (Up.drew _) | refine Up.trans ?_ (Up.drewN _ _) | refine Up.trans ?_ (Up.alloc _ _) | refine Up.trans ?_ (Go.RowKit.Hid.out (by assumption)))))).facts)))
  have HFF := Lib.hid ((HR8.out.set X Y).facts)
  have HUF := Lib.hid ((show Up w w5 by (repeat (first | exact Below.refl _ _ | exact Go.RowKit.Hid.out (by assumption) | refine Up.trans ?_ (Up.drew _) | refine Up.trans ?_ (Up.drewN _ _) | refine Up.trans ?_ (Up.alloc _ _) | refine Up.trans ?_ (Go.RowKit.Hid.out (by assumption))))).stored (show w.heap.size ≤ w.heap.size + 1 + 1 by omega) (.int .i64 X) (.int .i64 Y))
  go_wp2
  obtain ⟨z0, z1, -, -, -⟩ := HFF.out
  refine bodyPost_ret (by simp [results, Tryz.results6, go_sem, z0, z1]; try rfl) rfl ?_
  exact ⟨rfl, HUF.out⟩

set_option maxHeartbeats 8000000 in
set_option maxRecDepth 10000 in
theorem refSub_arg (x1 y1 x2 y2 : Int) (w : World) (h1 : Rng x1 y1) (h2 : Rng x2 y2) (hk : (okNum x1 y1 && okNum x2 y2) = false) :
    Calls Tryz.prog 8 #[.agg #[.int .i64 x1, .int .i64 y1], .agg #[.int .i64 x2, .int .i64 y2]] w fun e w' => e = .returned (.tuple #[.agg #[.int .i64 0, .int .i64 0], .int .i64 1]) ∧ Up w w' := by
  obtain ⟨wB, hwB, hn1, hn2, hr, hu0, hall⟩ := startAll w x1 y1 x2 y2 h1 h2
  rw [hk] at hall
  have HALL := Lib.hid hall
  have HN1 := Lib.hid hn1
  have HN2 := Lib.hid hn2
  have HR := Lib.hid hr
  have HU := Lib.hid hu0
  have HWB := Lib.hid hwB
  clear hk hall hn1 hn2 hr hu0 hwB
  go_enter Tryz.func8, Tryz.ntmps8
  go_wp2_with fail
  rw [HWB.out]
  refine Calls.mono HALL.out ?_
  rintro e w1 ⟨rfl, hu1⟩
  have HU1 := Lib.hid hu1
  clear hu1 HWB HALL
  have HR8 := Lib.hid (HR.out.up (w' := w1) (by (repeat (first | exact Below.refl _ _ | exact Go.RowKit.Hid.out (by assumption) | refine Up.trans ?_ (Up.drew _) | refine Up.trans ?_ (Up.drewN _ _) | refine Up.trans ?_ (Up.alloc _ _) | refine Up.trans ?_ (Go.RowKit.Hid.out (by assumption))))))
  obtain ⟨r0, r1, g0, g1, lr⟩ := HR8.out.facts
  have HFF := Lib.hid ((HR8.out.set 0 0).facts)
  have HUF := Lib.hid ((show Up w w1 by (repeat (first | exact Below.refl _ _ | exact Go.RowKit.Hid.out (by assumption) | refine Up.trans ?_ (Up.drew _) | refine Up.trans ?_ (Up.drewN _ _) | refine Up.trans ?_ (Up.alloc _ _) | refine Up.trans ?_ (Go.RowKit.Hid.out (by assumption))))).stored (show w.heap.size ≤ w.heap.size + 1 + 1 by omega) (.int .i64 0) (.int .i64 0))
  go_wp2
  obtain ⟨z0, z1, -, -, -⟩ := HFF.out
  refine bodyPost_ret (by simp [results, Tryz.results8, go_sem, z0, z1]; try rfl) rfl ?_
  exact ⟨rfl, HUF.out⟩

set_option maxHeartbeats 8000000 in
set_option maxRecDepth 10000 in
theorem refSub_ok (x1 y1 x2 y2 : Int) (w : World) (hk1 : okNum x1 y1 = true) (hk2 : okNum x2 y2 = true) :
    Calls Tryz.prog 8 #[.agg #[.int .i64 x1, .int .i64 y1], .agg #[.int .i64 x2, .int .i64 y2]] w fun e w' => e = .returned (.tuple #[.agg #[.int .i64 (numX true (ratOf x1 y1 - ratOf x2 y2)), .int .i64 (numY true (ratOf x1 y1 - ratOf x2 y2))], .int .i64 (numE true (ratOf x1 y1 - ratOf x2 y2))]) ∧ Up w w' := by
  have h1 : Rng x1 y1 := by have := ok_bounds hk1; exact ⟨by omega, by omega, by omega, by omega⟩
  have h2 : Rng x2 y2 := by have := ok_bounds hk2; exact ⟨by omega, by omega, by omega, by omega⟩
  have hk : (okNum x1 y1 && okNum x2 y2) = true := by rw [hk1, hk2]; rfl
  have HTa := Lib.hid (fun W => refTo_q x1 y1 W hk1)
  have HTb := Lib.hid (fun W => refTo_q x2 y2 W hk2)
  have HOP := Lib.hid (fun W u1 u2 (k1 : RQ W u1 (ratOf x1 y1)) (k2 : RQ W u2 (ratOf x2 y2)) => refRatLess_q u1 u2 _ _ 3 3 W k1 k2 (ok_QB hk1) (ok_QB hk2) (by omega))
  have HNUM := Lib.hid (fun W u (k : RQ W u (ratOf x1 y1 - ratOf x2 y2)) => refNum_q u _ W k)
  generalize (ratOf x1 y1 - ratOf x2 y2) = q at *
  generalize ratOf x1 y1 = qa at *
  generalize ratOf x2 y2 = qb at *
  generalize numX true q = X at *
  generalize numY true q = Y at *
  generalize numE true q = E at *
  clear hk1 hk2
  obtain ⟨wB, hwB, hn1, hn2, hr, hu0, hall⟩ := startAll w x1 y1 x2 y2 h1 h2
  rw [hk] at hall
  have HALL := Lib.hid hall
  have HN1 := Lib.hid hn1
  have HN2 := Lib.hid hn2
  have HR := Lib.hid hr
  have HU := Lib.hid hu0
  have HWB := Lib.hid hwB
  clear hk hall hn1 hn2 hr hu0 hwB
  go_enter Tryz.func8, Tryz.ntmps8
  go_wp2_with fail
  rw [HWB.out]
  refine Calls.mono HALL.out ?_
  rintro e w1 ⟨rfl, hu1⟩
  have HU1 := Lib.hid hu1
  clear hu1 HWB HALL
  obtain ⟨a0, a1, -, -, la⟩ := (HN1.out.up (w' := w1) (by (repeat (first | exact Below.refl _ _ | exact Go.RowKit.Hid.out (by assumption) | refine Up.trans ?_ (Up.drew _) | refine Up.trans ?_ (Up.drewN _ _) | refine Up.trans ?_ (Up.alloc _ _) | refine Up.trans ?_ (Go.RowKit.Hid.out (by assumption)))))).facts
  obtain ⟨b0, b1, -, -, lb⟩ := (HN2.out.up (w' := w1) (by (repeat (first | exact Below.refl _ _ | exact Go.RowKit.Hid.out (by assumption) | refine Up.trans ?_ (Up.drew _) | refine Up.trans ?_ (Up.drewN _ _) | refine Up.trans ?_ (Up.alloc _ _) | refine Up.trans ?_ (Go.RowKit.Hid.out (by assumption)))))).facts
  have hne1 : (w.heap.size = w.heap.size + 1 + 1) = False := by simp; omega
  have hne2 : (w.heap.size + 1 + 1 = w.heap.size) = False := by simp; omega
  go_upto_region 3 with fail
  go_region_held3 (fun w' => w'.cell? ⟨w.heap.size, 0, none⟩ = some (.int .i64 x1) ∧ w'.cell? ⟨w.heap.size, 1, none⟩ = some (.int .i64 y1) ∧ w'.cell? ⟨w.heap.size + 1, 0, none⟩ = some (.int .i64 x2) ∧ w'.cell? ⟨w.heap.size + 1, 1, none⟩ = some (.int .i64 y2)) (go_keep)
    ((first
      | (have HGUARD := HVw4; go_at_call 25
         refine Calls.mono (HNUM.out _ _ (HVw4.out.up (by (repeat (first | exact Below.refl _ _ | exact Go.RowKit.Hid.out (by assumption) | refine Up.trans ?_ (Up.drew _) | refine Up.trans ?_ (Up.drewN _ _) | refine Up.trans ?_ (Up.alloc _ _) | refine Up.trans ?_ (Go.RowKit.Hid.out (by assumption))))))) ?_
         rintro e w5 ⟨rfl, hu⟩
         have HUw5 := Lib.hid hu
         clear hu
         obtain ⟨a0, a1, -, -, la⟩ := (HN1.out.up (w' := w5) (by (repeat (first | exact Below.refl _ _ | exact Go.RowKit.Hid.out (by assumption) | refine Up.trans ?_ (Up.drew _) | refine Up.trans ?_ (Up.drewN _ _) | refine Up.trans ?_ (Up.alloc _ _) | refine Up.trans ?_ (Go.RowKit.Hid.out (by assumption)))))).facts
         obtain ⟨b0, b1, -, -, lb⟩ := (HN2.out.up (w' := w5) (by (repeat (first | exact Below.refl _ _ | exact Go.RowKit.Hid.out (by assumption) | refine Up.trans ?_ (Up.drew _) | refine Up.trans ?_ (Up.drewN _ _) | refine Up.trans ?_ (Up.alloc _ _) | refine Up.trans ?_ (Go.RowKit.Hid.out (by assumption)))))).facts
         have HR8 := Lib.hid (HR.out.up (w' := w5) (by (repeat (first | exact Below.refl _ _ | exact Go.RowKit.Hid.out (by assumption) | refine Up.trans ?_ (Up.drew _) | refine Up.trans ?_ (Up.drewN _ _) | refine Up.trans ?_ (Up.alloc _ _) | refine Up.trans ?_ (Go.RowKit.Hid.out (by assumption))))))
         obtain ⟨r0, r1, g0, g1, lr⟩ := HR8.out.facts)
      | (have HGUARD := HVw3; go_at_call 29
         refine Calls.mono (HOP.out _ _ _ (HVw2.out.up (by (repeat (first | exact Below.refl _ _ | exact Go.RowKit.Hid.out (by assumption) | refine Up.trans ?_ (Up.drew _) | refine Up.trans ?_ (Up.drewN _ _) | refine Up.trans ?_ (Up.alloc _ _) | refine Up.trans ?_ (Go.RowKit.Hid.out (by assumption)))))) (HVw3.out.up (by (repeat (first | exact Below.refl _ _ | exact Go.RowKit.Hid.out (by assumption) | refine Up.trans ?_ (Up.drew _) | refine Up.trans ?_ (Up.drewN _ _) | refine Up.trans ?_ (Up.alloc _ _) | refine Up.trans ?_ (Go.RowKit.Hid.out (by assumption))))))) ?_
         rintro e w4 ⟨v, rfl, hv, hu⟩
         have HUw4 := Lib.hid hu
         have HVw4 := Lib.hid hv
         clear hu hv
         obtain ⟨a0, a1, -, -, la⟩ := (HN1.out.up (w' := w4) (by (repeat (first | exact Below.refl _ _ | exact Go.RowKit.Hid.out (by assumption) | refine Up.trans ?_ (Up.drew _) | refine Up.trans ?_ (Up.drewN _ _) | refine Up.trans ?_ (Up.alloc _ _) | refine Up.trans ?_ (Go.RowKit.Hid.out (by assumption)))))).facts
         obtain ⟨b0, b1, -, -, lb⟩ := (HN2.out.up (w' := w4) (by (repeat (first | exact Below.refl _ _ | exact Go.RowKit.Hid.out (by assumption) | refine Up.trans ?_ (Up.drew _) | refine Up.trans ?_ (Up.drewN _ _) | refine Up.trans ?_ (Up.alloc _ _) | refine Up.trans ?_ (Go.RowKit.Hid.out (by assumption)))))).facts)
      | (have HGUARD := HVw2; go_at_call_of 26 (Value.agg #[.int .i64 x2, .int .i64 y2])
         refine Calls.mono (HTb.out _) ?_
         rintro e w3 ⟨v, rfl, hv, hu⟩
         have HUw3 := Lib.hid hu
         have HVw3 := Lib.hid hv
         clear hu hv
         obtain ⟨a0, a1, -, -, la⟩ := (HN1.out.up (w' := w3) (by (repeat (first | exact Below.refl _ _ | exact Go.RowKit.Hid.out (by assumption) | refine Up.trans ?_ (Up.drew _) | refine Up.trans ?_ (Up.drewN _ _) | refine Up.trans ?_ (Up.alloc _ _) | refine Up.trans ?_ (Go.RowKit.Hid.out (by assumption)))))).facts
         obtain ⟨b0, b1, -, -, lb⟩ := (HN2.out.up (w' := w3) (by (repeat (first | exact Below.refl _ _ | exact Go.RowKit.Hid.out (by assumption) | refine Up.trans ?_ (Up.drew _) | refine Up.trans ?_ (Up.drewN _ _) | refine Up.trans ?_ (Up.alloc _ _) | refine Up.trans ?_ (Go.RowKit.Hid.out (by assumption)))))).facts)
      | (go_at_call_of 26 (Value.agg #[.int .i64 x1, .int .i64 y1])
         refine Calls.mono (HTa.out _) ?_
         rintro e w2 ⟨v, rfl, hv, hu⟩
         have HUw2 := Lib.hid hu
         have HVw2 := Lib.hid hv
         clear hu hv
         obtain ⟨a0, a1, -, -, la⟩ := (HN1.out.up (w' := w2) (by (repeat (first | exact Below.refl _ _ | exact Go.RowKit.Hid.out (by assumption) | refine Up.trans ?_ (Up.drew _) | refine Up.trans ?_ (Up.drewN _ _) | refine Up.trans ?_ (Up.alloc _ _) | refine Up.trans ?_ (Go.RowKit.Hid.out (by assumption)))))).facts
         obtain ⟨b0, b1, -, -, lb⟩ := (HN2.out.up (w' := w2) (by (repeat (first | exact Below.refl _ _ | exact Go.RowKit.Hid.out (by assumption) | refine Up.trans ?_ (Up.drew _) | refine Up.trans ?_ (Up.drewN _ _) | refine Up.trans ?_ (Up.alloc _ _) | refine Up.trans ?_ (Go.RowKit.Hid.out (by assumption)))))).facts)))
  have HFF := Lib.hid ((HR8.out.set X Y).facts)
  have HUF := Lib.hid ((show Up w w5 by (repeat (first | exact Below.refl _ _ | exact Go.RowKit.Hid.out (by assumption) | refine Up.trans ?_ (Up.drew _) | refine Up.trans ?_ (Up.drewN _ _) | refine Up.trans ?_ (Up.alloc _ _) | refine Up.trans ?_ (Go.RowKit.Hid.out (by assumption))))).stored (show w.heap.size ≤ w.heap.size + 1 + 1 by omega) (.int .i64 X) (.int .i64 Y))
  go_wp2
  obtain ⟨z0, z1, -, -, -⟩ := HFF.out
  refine bodyPost_ret (by simp [results, Tryz.results8, go_sem, z0, z1]; try rfl) rfl ?_
  exact ⟨rfl, HUF.out⟩

set_option maxHeartbeats 8000000 in
set_option maxRecDepth 10000 in
theorem refMul_arg (x1 y1 x2 y2 : Int) (w : World) (h1 : Rng x1 y1) (h2 : Rng x2 y2) (hk : (okNum x1 y1 && okNum x2 y2) = false) :
    Calls Tryz.prog 10 #[.agg #[.int .i64 x1, .int .i64 y1], .agg #[.int .i64 x2, .int .i64 y2]] w fun e w' => e = .returned (.tuple #[.agg #[.int .i64 0, .int .i64 0], .int .i64 1]) ∧ Up w w' := by
  obtain ⟨wB, hwB, hn1, hn2, hr, hu0, hall⟩ := startAll w x1 y1 x2 y2 h1 h2
  rw [hk] at hall
  have HALL := Lib.hid hall
  have HN1 := Lib.hid hn1
  have HN2 := Lib.hid hn2
  have HR := Lib.hid hr
  have HU := Lib.hid hu0
  have HWB := Lib.hid hwB
  clear hk hall hn1 hn2 hr hu0 hwB
  go_enter Tryz.func10, Tryz.ntmps10
  go_wp2_with fail
  rw [HWB.out]
  refine Calls.mono HALL.out ?_
  rintro e w1 ⟨rfl, hu1⟩
  have HU1 := Lib.hid hu1
  clear hu1 HWB HALL
  have HR8 := Lib.hid (HR.out.up (w' := w1) (by (repeat (first | exact Below.refl _ _ | exact Go.RowKit.Hid.out (by assumption) | refine Up.trans ?_ (Up.drew _) | refine Up.trans ?_ (Up.drewN _ _) | refine Up.trans ?_ (Up.alloc _ _) | refine Up.trans ?_ (Go.RowKit.Hid.out (by assumption))))))
  obtain ⟨r0, r1, g0, g1, lr⟩ := HR8.out.facts
  have HFF := Lib.hid ((HR8.out.set 0 0).facts)
  have HUF := Lib.hid ((show Up w w1 by (repeat (first | exact Below.refl _ _ | exact Go.RowKit.Hid.out (by assumption) | refine Up.trans ?_ (Up.drew _) | refine Up.trans ?_ (Up.drewN _ _) | refine Up.trans ?_ (Up.alloc _ _) | refine Up.trans ?_ (Go.RowKit.Hid.out (by assumption))))).stored (show w.heap.size ≤ w.heap.size + 1 + 1 by omega) (.int .i64 0) (.int .i64 0))
  go_wp2
  obtain ⟨z0, z1, -, -, -⟩ := HFF.out
  refine bodyPost_ret (by simp [results, Tryz.results10, go_sem, z0, z1]; try rfl) rfl ?_
  exact ⟨rfl, HUF.out⟩

set_option maxHeartbeats 8000000 in
set_option maxRecDepth 10000 in
theorem refMul_ok (x1 y1 x2 y2 : Int) (w : World) (hk1 : okNum x1 y1 = true) (hk2 : okNum x2 y2 = true) :
    Calls Tryz.prog 10 #[.agg #[.int .i64 x1, .int .i64 y1], .agg #[.int .i64 x2, .int .i64 y2]] w fun e w' => e = .returned (.tuple #[.agg #[.int .i64 (numX true (ratOf x1 y1 * ratOf x2 y2)), .int .i64 (numY true (ratOf x1 y1 * ratOf x2 y2))], .int .i64 (numE true (ratOf x1 y1 * ratOf x2 y2))]) ∧ Up w w' := by
  have h1 : Rng x1 y1 := by have := ok_bounds hk1; exact ⟨by omega, by omega, by omega, by omega⟩
  have h2 : Rng x2 y2 := by have := ok_bounds hk2; exact ⟨by omega, by omega, by omega, by omega⟩
  have hk : (okNum x1 y1 && okNum x2 y2) = true := by rw [hk1, hk2]; rfl
  have HTa := Lib.hid (fun W => refTo_q x1 y1 W hk1)
  have HTb := Lib.hid (fun W => refTo_q x2 y2 W hk2)
  have HOP := Lib.hid (fun W u1 u2 (k1 : RQ W u1 (ratOf x1 y1)) (k2 : RQ W u2 (ratOf x2 y2)) => refRatTimes_q u1 u2 _ _ 3 3 W k1 k2 (ok_QB hk1) (ok_QB hk2) (by omega))
  have HNUM := Lib.hid (fun W u (k : RQ W u (ratOf x1 y1 * ratOf x2 y2)) => refNum_q u _ W k)
  generalize (ratOf x1 y1 * ratOf x2 y2) = q at *
  generalize ratOf x1 y1 = qa at *
  generalize ratOf x2 y2 = qb at *
  generalize numX true q = X at *
  generalize numY true q = Y at *
  generalize numE true q = E at *
  clear hk1 hk2
  obtain ⟨wB, hwB, hn1, hn2, hr, hu0, hall⟩ := startAll w x1 y1 x2 y2 h1 h2
  rw [hk] at hall
  have HALL := Lib.hid hall
  have HN1 := Lib.hid hn1
  have HN2 := Lib.hid hn2
  have HR := Lib.hid hr
  have HU := Lib.hid hu0
  have HWB := Lib.hid hwB
  clear hk hall hn1 hn2 hr hu0 hwB
  go_enter Tryz.func10, Tryz.ntmps10
  go_wp2_with fail
  rw [HWB.out]
  refine Calls.mono HALL.out ?_
  rintro e w1 ⟨rfl, hu1⟩
  have HU1 := Lib.hid hu1
  clear hu1 HWB HALL
  obtain ⟨a0, a1, -, -, la⟩ := (HN1.out.up (w' := w1) (by (repeat (first | exact Below.refl _ _ | exact Go.RowKit.Hid.out (by assumption) | refine Up.trans ?_ (Up.drew _) | refine Up.trans ?_ (Up.drewN _ _) | refine Up.trans ?_ (Up.alloc _ _) | refine Up.trans ?_ (Go.RowKit.Hid.out (by assumption)))))).facts
  obtain ⟨b0, b1, -, -, lb⟩ := (HN2.out.up (w' := w1) (by (repeat (first | exact Below.refl _ _ | exact Go.RowKit.Hid.out (by assumption) | refine Up.trans ?_ (Up.drew _) | refine Up.trans ?_ (Up.drewN _ _) | refine Up.trans ?_ (Up.alloc _ _) | refine Up.trans ?_ (Go.RowKit.Hid.out (by assumption)))))).facts
  have hne1 : (w.heap.size = w.heap.size + 1 + 1) = False := by simp; omega
  have hne2 : (w.heap.size + 1 + 1 = w.heap.size) = False := by simp; omega
  go_upto_region 3 with fail
  go_region_held3 (fun w' => w'.cell? ⟨w.heap.size, 0, none⟩ = some (.int .i64 x1) ∧ w'.cell? ⟨w.heap.size, 1, none⟩ = some (.int .i64 y1) ∧ w'.cell? ⟨w.heap.size + 1, 0, none⟩ = some (.int .i64 x2) ∧ w'.cell? ⟨w.heap.size + 1, 1, none⟩ = some (.int .i64 y2)) (go_keep)
    ((first
      | (have HGUARD := HVw4; go_at_call 25
         refine Calls.mono (HNUM.out _ _ (HVw4.out.up (by (repeat (first | exact Below.refl _ _ | exact Go.RowKit.Hid.out (by assumption) | refine Up.trans ?_ (Up.drew _) | refine Up.trans ?_ (Up.drewN _ _) | refine Up.trans ?_ (Up.alloc _ _) | refine Up.trans ?_ (Go.RowKit.Hid.out (by assumption))))))) ?_
         rintro e w5 ⟨rfl, hu⟩
         have HUw5 := Lib.hid hu
         clear hu
         obtain ⟨a0, a1, -, -, la⟩ := (HN1.out.up (w' := w5) (by (repeat (first | exact Below.refl _ _ | exact Go.RowKit.Hid.out (by assumption) | refine Up.trans ?_ (Up.drew _) | refine Up.trans ?_ (Up.drewN _ _) | refine Up.trans ?_ (Up.alloc _ _) | refine Up.trans ?_ (Go.RowKit.Hid.out (by assumption)))))).facts
         obtain ⟨b0, b1, -, -, lb⟩ := (HN2.out.up (w' := w5) (by (repeat (first | exact Below.refl _ _ | exact Go.RowKit.Hid.out (by assumption) | refine Up.trans ?_ (Up.drew _) | refine Up.trans ?_ (Up.drewN _ _) | refine Up.trans ?_ (Up.alloc _ _) | refine Up.trans ?_ (Go.RowKit.Hid.out (by assumption)))))).facts
         have HR8 := Lib.hid (HR.out.up (w' := w5) (by (repeat (first | exact Below.refl _ _ | exact Go.RowKit.Hid.out (by assumption) | refine Up.trans ?_ (Up.drew _) | refine Up.trans ?_ (Up.drewN _ _) | refine Up.trans ?_ (Up.alloc _ _) | refine Up.trans ?_ (Go.RowKit.Hid.out (by assumption))))))
         obtain ⟨r0, r1, g0, g1, lr⟩ := HR8.out.facts)
      | (have HGUARD := HVw3; go_at_call 31
         refine Calls.mono (HOP.out _ _ _ (HVw2.out.up (by (repeat (first | exact Below.refl _ _ | exact Go.RowKit.Hid.out (by assumption) | refine Up.trans ?_ (Up.drew _) | refine Up.trans ?_ (Up.drewN _ _) | refine Up.trans ?_ (Up.alloc _ _) | refine Up.trans ?_ (Go.RowKit.Hid.out (by assumption)))))) (HVw3.out.up (by (repeat (first | exact Below.refl _ _ | exact Go.RowKit.Hid.out (by assumption) | refine Up.trans ?_ (Up.drew _) | refine Up.trans ?_ (Up.drewN _ _) | refine Up.trans ?_ (Up.alloc _ _) | refine Up.trans ?_ (Go.RowKit.Hid.out (by assumption))))))) ?_
         rintro e w4 ⟨v, rfl, hv, hu⟩
         have HUw4 := Lib.hid hu
         have HVw4 := Lib.hid hv
         clear hu hv
         obtain ⟨a0, a1, -, -, la⟩ := (HN1.out.up (w' := w4) (by (repeat (first | exact Below.refl _ _ | exact Go.RowKit.Hid.out (by assumption) | refine Up.trans ?_ (Up.drew _) | refine Up.trans ?_ (Up.drewN _ _) | refine Up.trans ?_ (Up.alloc _ _) | refine Up.trans ?_ (Go.RowKit.Hid.out (by assumption)))))).facts
         obtain ⟨b0, b1, -, -, lb⟩ := (HN2.out.up (w' := w4) (by (repeat (first | exact Below.refl _ _ | exact Go.RowKit.Hid.out (by assumption) | refine Up.trans ?_ (Up.drew _) | refine Up.trans ?_ (Up.drewN _ _) | refine Up.trans ?_ (Up.alloc _ _) | refine Up.trans ?_ (Go.RowKit.Hid.out (by assumption)))))).facts)
      | (have HGUARD := HVw2; go_at_call_of 26 (Value.agg #[.int .i64 x2, .int .i64 y2])
         refine Calls.mono (HTb.out _) ?_
         rintro e w3 ⟨v, rfl, hv, hu⟩
         have HUw3 := Lib.hid hu
         have HVw3 := Lib.hid hv
         clear hu hv
         obtain ⟨a0, a1, -, -, la⟩ := (HN1.out.up (w' := w3) (by (repeat (first | exact Below.refl _ _ | exact Go.RowKit.Hid.out (by assumption) | refine Up.trans ?_ (Up.drew _) | refine Up.trans ?_ (Up.drewN _ _) | refine Up.trans ?_ (Up.alloc _ _) | refine Up.trans ?_ (Go.RowKit.Hid.out (by assumption)))))).facts
         obtain ⟨b0, b1, -, -, lb⟩ := (HN2.out.up (w' := w3) (by (repeat (first | exact Below.refl _ _ | exact Go.RowKit.Hid.out (by assumption) | refine Up.trans ?_ (Up.drew _) | refine Up.trans ?_ (Up.drewN _ _) | refine Up.trans ?_ (Up.alloc _ _) | refine Up.trans ?_ (Go.RowKit.Hid.out (by assumption)))))).facts)
      | (go_at_call_of 26 (Value.agg #[.int .i64 x1, .int .i64 y1])
         refine Calls.mono (HTa.out _) ?_
         rintro e w2 ⟨v, rfl, hv, hu⟩
         have HUw2 := Lib.hid hu
         have HVw2 := Lib.hid hv
         clear hu hv
         obtain ⟨a0, a1, -, -, la⟩ := (HN1.out.up (w' := w2) (by (repeat (first | exact Below.refl _ _ | exact Go.RowKit.Hid.out (by assumption) | refine Up.trans ?_ (Up.drew _) | refine Up.trans ?_ (Up.drewN _ _) | refine Up.trans ?_ (Up.alloc _ _) | refine Up.trans ?_ (Go.RowKit.Hid.out (by assumption)))))).facts
         obtain ⟨b0, b1, -, -, lb⟩ := (HN2.out.up (w' := w2) (by (repeat (first | exact Below.refl _ _ | exact Go.RowKit.Hid.out (by assumption) | refine Up.trans ?_ (Up.drew _) | refine Up.trans ?_ (Up.drewN _ _) | refine Up.trans ?_ (Up.alloc _ _) | refine Up.trans ?_ (Go.RowKit.Hid.out (by assumption)))))).facts)))
  have HFF := Lib.hid ((HR8.out.set X Y).facts)
  have HUF := Lib.hid ((show Up w w5 by (repeat (first | exact Below.refl _ _ | exact Go.RowKit.Hid.out (by assumption) | refine Up.trans ?_ (Up.drew _) | refine Up.trans ?_ (Up.drewN _ _) | refine Up.trans ?_ (Up.alloc _ _) | refine Up.trans ?_ (Go.RowKit.Hid.out (by assumption))))).stored (show w.heap.size ≤ w.heap.size + 1 + 1 by omega) (.int .i64 X) (.int .i64 Y))
  go_wp2
  obtain ⟨z0, z1, -, -, -⟩ := HFF.out
  refine bodyPost_ret (by simp [results, Tryz.results10, go_sem, z0, z1]; try rfl) rfl ?_
  exact ⟨rfl, HUF.out⟩

set_option maxHeartbeats 8000000 in
set_option maxRecDepth 10000 in
theorem refDiv_arg (x1 y1 x2 y2 : Int) (w : World) (h1 : Rng x1 y1) (h2 : Rng x2 y2) (hk : (okNum x1 y1 && okNum x2 y2) = false) :
    Calls Tryz.prog 12 #[.agg #[.int .i64 x1, .int .i64 y1], .agg #[.int .i64 x2, .int .i64 y2]] w fun e w' => e = .returned (.tuple #[.agg #[.int .i64 0, .int .i64 0], .int .i64 1]) ∧ Up w w' := by
  obtain ⟨wB, hwB, hn1, hn2, hr, hu0, hall⟩ := startAll w x1 y1 x2 y2 h1 h2
  rw [hk] at hall
  have HALL := Lib.hid hall
  have HN1 := Lib.hid hn1
  have HN2 := Lib.hid hn2
  have HR := Lib.hid hr
  have HU := Lib.hid hu0
  have HWB := Lib.hid hwB
  clear hk hall hn1 hn2 hr hu0 hwB
  go_enter Tryz.func12, Tryz.ntmps12
  go_wp2_with fail
  rw [HWB.out]
  refine Calls.mono HALL.out ?_
  rintro e w1 ⟨rfl, hu1⟩
  have HU1 := Lib.hid hu1
  clear hu1 HWB HALL
  have HR8 := Lib.hid (HR.out.up (w' := w1) (by (repeat (first | exact Below.refl _ _ | exact Go.RowKit.Hid.out (by assumption) | refine Up.trans ?_ (Up.drew _) | refine Up.trans ?_ (Up.drewN _ _) | refine Up.trans ?_ (Up.alloc _ _) | refine Up.trans ?_ (Go.RowKit.Hid.out (by assumption))))))
  obtain ⟨r0, r1, g0, g1, lr⟩ := HR8.out.facts
  have HFF := Lib.hid ((HR8.out.set 0 0).facts)
  have HUF := Lib.hid ((show Up w w1 by (repeat (first | exact Below.refl _ _ | exact Go.RowKit.Hid.out (by assumption) | refine Up.trans ?_ (Up.drew _) | refine Up.trans ?_ (Up.drewN _ _) | refine Up.trans ?_ (Up.alloc _ _) | refine Up.trans ?_ (Go.RowKit.Hid.out (by assumption))))).stored (show w.heap.size ≤ w.heap.size + 1 + 1 by omega) (.int .i64 0) (.int .i64 0))
  go_wp2
  obtain ⟨z0, z1, -, -, -⟩ := HFF.out
  refine bodyPost_ret (by simp [results, Tryz.results12, go_sem, z0, z1]; try rfl) rfl ?_
  exact ⟨rfl, HUF.out⟩

set_option maxHeartbeats 8000000 in
set_option maxRecDepth 10000 in
theorem refDiv_none (x1 y1 x2 y2 : Int) (w : World) (hk1 : okNum x1 y1 = true) (hk2 : okNum x2 y2 = true) (h0 : x2 = 0) :
    Calls Tryz.prog 12 #[.agg #[.int .i64 x1, .int .i64 y1], .agg #[.int .i64 x2, .int .i64 y2]] w fun e w' => e = .returned (.tuple #[.agg #[.int .i64 0, .int .i64 0], .int .i64 5]) ∧ Up w w' := by
  have h1 : Rng x1 y1 := by have := ok_bounds hk1; exact ⟨by omega, by omega, by omega, by omega⟩
  have h2 : Rng x2 y2 := by have := ok_bounds hk2; exact ⟨by omega, by omega, by omega, by omega⟩
  have hk : (okNum x1 y1 && okNum x2 y2) = true := by rw [hk1, hk2]; rfl
  have HTa := Lib.hid (fun W => refTo_q x1 y1 W hk1)
  have HTb := Lib.hid (fun W => refTo_q x2 y2 W hk2)
  subst h0
  clear hk1 hk2
  obtain ⟨wB, hwB, hn1, hn2, hr, hu0, hall⟩ := startAll w x1 y1 0 y2 h1 h2
  rw [hk] at hall
  have HALL := Lib.hid hall
  have HN1 := Lib.hid hn1
  have HN2 := Lib.hid hn2
  have HR := Lib.hid hr
  have HU := Lib.hid hu0
  have HWB := Lib.hid hwB
  clear hk hall hn1 hn2 hr hu0 hwB
  go_enter Tryz.func12, Tryz.ntmps12
  go_wp2_with fail
  rw [HWB.out]
  refine Calls.mono HALL.out ?_
  rintro e w1 ⟨rfl, hu1⟩
  have HU1 := Lib.hid hu1
  clear hu1 HWB HALL
  obtain ⟨a0, a1, -, -, la⟩ := (HN1.out.up (w' := w1) (by (repeat (first | exact Below.refl _ _ | exact Go.RowKit.Hid.out (by assumption) | refine Up.trans ?_ (Up.drew _) | refine Up.trans ?_ (Up.drewN _ _) | refine Up.trans ?_ (Up.alloc _ _) | refine Up.trans ?_ (Go.RowKit.Hid.out (by assumption)))))).facts
  obtain ⟨b0, b1, -, -, lb⟩ := (HN2.out.up (w' := w1) (by (repeat (first | exact Below.refl _ _ | exact Go.RowKit.Hid.out (by assumption) | refine Up.trans ?_ (Up.drew _) | refine Up.trans ?_ (Up.drewN _ _) | refine Up.trans ?_ (Up.alloc _ _) | refine Up.trans ?_ (Go.RowKit.Hid.out (by assumption)))))).facts
  have HR8 := Lib.hid (HR.out.up (w' := w1) (by (repeat (first | exact Below.refl _ _ | exact Go.RowKit.Hid.out (by assumption) | refine Up.trans ?_ (Up.drew _) | refine Up.trans ?_ (Up.drewN _ _) | refine Up.trans ?_ (Up.alloc _ _) | refine Up.trans ?_ (Go.RowKit.Hid.out (by assumption))))))
  obtain ⟨r0, r1, g0, g1, lr⟩ := HR8.out.facts
  have HFF := Lib.hid ((HR8.out.set 0 0).facts)
  have HUF := Lib.hid ((show Up w w1 by (repeat (first | exact Below.refl _ _ | exact Go.RowKit.Hid.out (by assumption) | refine Up.trans ?_ (Up.drew _) | refine Up.trans ?_ (Up.drewN _ _) | refine Up.trans ?_ (Up.alloc _ _) | refine Up.trans ?_ (Go.RowKit.Hid.out (by assumption))))).stored (show w.heap.size ≤ w.heap.size + 1 + 1 by omega) (.int .i64 0) (.int .i64 0))
  go_wp2
  obtain ⟨z0, z1, -, -, -⟩ := HFF.out
  refine bodyPost_ret (by simp [results, Tryz.results12, go_sem, z0, z1]; try rfl) rfl ?_
  exact ⟨rfl, HUF.out⟩

set_option maxHeartbeats 8000000 in
set_option maxRecDepth 10000 in
theorem refDiv_ok (x1 y1 x2 y2 : Int) (w : World) (hk1 : okNum x1 y1 = true) (hk2 : okNum x2 y2 = true) (h0 : x2 ≠ 0) :
    Calls Tryz.prog 12 #[.agg #[.int .i64 x1, .int .i64 y1], .agg #[.int .i64 x2, .int .i64 y2]] w fun e w' => e = .returned (.tuple #[.agg #[.int .i64 (numX true (ratOf x1 y1 / ratOf x2 y2)), .int .i64 (numY true (ratOf x1 y1 / ratOf x2 y2))], .int .i64 (numE true (ratOf x1 y1 / ratOf x2 y2))]) ∧ Up w w' := by
  have h1 : Rng x1 y1 := by have := ok_bounds hk1; exact ⟨by omega, by omega, by omega, by omega⟩
  have h2 : Rng x2 y2 := by have := ok_bounds hk2; exact ⟨by omega, by omega, by omega, by omega⟩
  have hk : (okNum x1 y1 && okNum x2 y2) = true := by rw [hk1, hk2]; rfl
  have HTa := Lib.hid (fun W => refTo_q x1 y1 W hk1)
  have HTb := Lib.hid (fun W => refTo_q x2 y2 W hk2)
  have hb0 : ratOf x2 y2 ≠ 0 := fun h => h0 (by have h5 := (ratOf_ok hk2).1; rw [h] at h5; exact h5.symm)
  have hz : (x2 == 0) = false := by simp [h0]
  have HOP := Lib.hid (fun W u1 u2 (k1 : RQ W u1 (ratOf x1 y1)) (k2 : RQ W u2 (ratOf x2 y2)) => refRatOver_q u1 u2 _ _ 3 3 W k1 k2 (ok_QB hk1) (ok_QB hk2) (by omega) hb0)
  have HNUM := Lib.hid (fun W u (k : RQ W u (ratOf x1 y1 / ratOf x2 y2)) => refNum_q u _ W k)
  clear hb0
  generalize (ratOf x1 y1 / ratOf x2 y2) = q at *
  generalize ratOf x1 y1 = qa at *
  generalize ratOf x2 y2 = qb at *
  generalize numX true q = X at *
  generalize numY true q = Y at *
  generalize numE true q = E at *
  clear hk1 hk2
  obtain ⟨wB, hwB, hn1, hn2, hr, hu0, hall⟩ := startAll w x1 y1 x2 y2 h1 h2
  rw [hk] at hall
  have HALL := Lib.hid hall
  have HN1 := Lib.hid hn1
  have HN2 := Lib.hid hn2
  have HR := Lib.hid hr
  have HU := Lib.hid hu0
  have HWB := Lib.hid hwB
  clear hk hall hn1 hn2 hr hu0 hwB
  go_enter Tryz.func12, Tryz.ntmps12
  go_wp2_with fail
  rw [HWB.out]
  refine Calls.mono HALL.out ?_
  rintro e w1 ⟨rfl, hu1⟩
  have HU1 := Lib.hid hu1
  clear hu1 HWB HALL
  obtain ⟨a0, a1, -, -, la⟩ := (HN1.out.up (w' := w1) (by (repeat (first | exact Below.refl _ _ | exact Go.RowKit.Hid.out (by assumption) | refine Up.trans ?_ (Up.drew _) | refine Up.trans ?_ (Up.drewN _ _) | refine Up.trans ?_ (Up.alloc _ _) | refine Up.trans ?_ (Go.RowKit.Hid.out (by assumption)))))).facts
  obtain ⟨b0, b1, -, -, lb⟩ := (HN2.out.up (w' := w1) (by (repeat (first | exact Below.refl _ _ | exact Go.RowKit.Hid.out (by assumption) | refine Up.trans ?_ (Up.drew _) | refine Up.trans ?_ (Up.drewN _ _) | refine Up.trans ?_ (Up.alloc _ _) | refine Up.trans ?_ (Go.RowKit.Hid.out (by assumption)))))).facts
  have hne1 : (w.heap.size = w.heap.size + 1 + 1) = False := by simp; omega
  have hne2 : (w.heap.size + 1 + 1 = w.heap.size) = False := by simp; omega
  go_upto_region 5 with fail
  go_region_held3 (fun w' => w'.cell? ⟨w.heap.size, 0, none⟩ = some (.int .i64 x1) ∧ w'.cell? ⟨w.heap.size, 1, none⟩ = some (.int .i64 y1) ∧ w'.cell? ⟨w.heap.size + 1, 0, none⟩ = some (.int .i64 x2) ∧ w'.cell? ⟨w.heap.size + 1, 1, none⟩ = some (.int .i64 y2)) (go_keep)
    ((first
      | (have HGUARD := HVw4; go_at_call 25
         refine Calls.mono (HNUM.out _ _ (HVw4.out.up (by (repeat (first | exact Below.refl _ _ | exact Go.RowKit.Hid.out (by assumption) | refine Up.trans ?_ (Up.drew _) | refine Up.trans ?_ (Up.drewN _ _) | refine Up.trans ?_ (Up.alloc _ _) | refine Up.trans ?_ (Go.RowKit.Hid.out (by assumption))))))) ?_
         rintro e w5 ⟨rfl, hu⟩
         have HUw5 := Lib.hid hu
         clear hu
         obtain ⟨a0, a1, -, -, la⟩ := (HN1.out.up (w' := w5) (by (repeat (first | exact Below.refl _ _ | exact Go.RowKit.Hid.out (by assumption) | refine Up.trans ?_ (Up.drew _) | refine Up.trans ?_ (Up.drewN _ _) | refine Up.trans ?_ (Up.alloc _ _) | refine Up.trans ?_ (Go.RowKit.Hid.out (by assumption)))))).facts
         obtain ⟨b0, b1, -, -, lb⟩ := (HN2.out.up (w' := w5) (by (repeat (first | exact Below.refl _ _ | exact Go.RowKit.Hid.out (by assumption) | refine Up.trans ?_ (Up.drew _) | refine Up.trans ?_ (Up.drewN _ _) | refine Up.trans ?_ (Up.alloc _ _) | refine Up.trans ?_ (Go.RowKit.Hid.out (by assumption)))))).facts
         have HR8 := Lib.hid (HR.out.up (w' := w5) (by (repeat (first | exact Below.refl _ _ | exact Go.RowKit.Hid.out (by assumption) | refine Up.trans ?_ (Up.drew _) | refine Up.trans ?_ (Up.drewN _ _) | refine Up.trans ?_ (Up.alloc _ _) | refine Up.trans ?_ (Go.RowKit.Hid.out (by assumption))))))
         obtain ⟨r0, r1, g0, g1, lr⟩ := HR8.out.facts)
      | (have HGUARD := HVw3; go_at_call 33
         refine Calls.mono (HOP.out _ _ _ (HVw2.out.up (by (repeat (first | exact Below.refl _ _ | exact Go.RowKit.Hid.out (by assumption) | refine Up.trans ?_ (Up.drew _) | refine Up.trans ?_ (Up.drewN _ _) | refine Up.trans ?_ (Up.alloc _ _) | refine Up.trans ?_ (Go.RowKit.Hid.out (by assumption)))))) (HVw3.out.up (by (repeat (first | exact Below.refl _ _ | exact Go.RowKit.Hid.out (by assumption) | refine Up.trans ?_ (Up.drew _) | refine Up.trans ?_ (Up.drewN _ _) | refine Up.trans ?_ (Up.alloc _ _) | refine Up.trans ?_ (Go.RowKit.Hid.out (by assumption))))))) ?_
         rintro e w4 ⟨v, rfl, hv, hu⟩
         have HUw4 := Lib.hid hu
         have HVw4 := Lib.hid hv
         clear hu hv
         obtain ⟨a0, a1, -, -, la⟩ := (HN1.out.up (w' := w4) (by (repeat (first | exact Below.refl _ _ | exact Go.RowKit.Hid.out (by assumption) | refine Up.trans ?_ (Up.drew _) | refine Up.trans ?_ (Up.drewN _ _) | refine Up.trans ?_ (Up.alloc _ _) | refine Up.trans ?_ (Go.RowKit.Hid.out (by assumption)))))).facts
         obtain ⟨b0, b1, -, -, lb⟩ := (HN2.out.up (w' := w4) (by (repeat (first | exact Below.refl _ _ | exact Go.RowKit.Hid.out (by assumption) | refine Up.trans ?_ (Up.drew _) | refine Up.trans ?_ (Up.drewN _ _) | refine Up.trans ?_ (Up.alloc _ _) | refine Up.trans ?_ (Go.RowKit.Hid.out (by assumption)))))).facts)
      | (have HGUARD := HVw2; go_at_call_of 26 (Value.agg #[.int .i64 x2, .int .i64 y2])
         refine Calls.mono (HTb.out _) ?_
         rintro e w3 ⟨v, rfl, hv, hu⟩
         have HUw3 := Lib.hid hu
         have HVw3 := Lib.hid hv
         clear hu hv
         obtain ⟨a0, a1, -, -, la⟩ := (HN1.out.up (w' := w3) (by (repeat (first | exact Below.refl _ _ | exact Go.RowKit.Hid.out (by assumption) | refine Up.trans ?_ (Up.drew _) | refine Up.trans ?_ (Up.drewN _ _) | refine Up.trans ?_ (Up.alloc _ _) | refine Up.trans ?_ (Go.RowKit.Hid.out (by assumption)))))).facts
         obtain ⟨b0, b1, -, -, lb⟩ := (HN2.out.up (w' := w3) (by (repeat (first | exact Below.refl _ _ | exact Go.RowKit.Hid.out (by assumption) | refine Up.trans ?_ (Up.drew _) | refine Up.trans ?_ (Up.drewN _ _) | refine Up.trans ?_ (Up.alloc _ _) | refine Up.trans ?_ (Go.RowKit.Hid.out (by assumption)))))).facts)
      | (go_at_call_of 26 (Value.agg #[.int .i64 x1, .int .i64 y1])
         refine Calls.mono (HTa.out _) ?_
         rintro e w2 ⟨v, rfl, hv, hu⟩
         have HUw2 := Lib.hid hu
         have HVw2 := Lib.hid hv
         clear hu hv
         obtain ⟨a0, a1, -, -, la⟩ := (HN1.out.up (w' := w2) (by (repeat (first | exact Below.refl _ _ | exact Go.RowKit.Hid.out (by assumption) | refine Up.trans ?_ (Up.drew _) | refine Up.trans ?_ (Up.drewN _ _) | refine Up.trans ?_ (Up.alloc _ _) | refine Up.trans ?_ (Go.RowKit.Hid.out (by assumption)))))).facts
         obtain ⟨b0, b1, -, -, lb⟩ := (HN2.out.up (w' := w2) (by (repeat (first | exact Below.refl _ _ | exact Go.RowKit.Hid.out (by assumption) | refine Up.trans ?_ (Up.drew _) | refine Up.trans ?_ (Up.drewN _ _) | refine Up.trans ?_ (Up.alloc _ _) | refine Up.trans ?_ (Go.RowKit.Hid.out (by assumption)))))).facts)))
  have HFF := Lib.hid ((HR8.out.set X Y).facts)
  have HUF := Lib.hid ((show Up w w5 by (repeat (first | exact Below.refl _ _ | exact Go.RowKit.Hid.out (by assumption) | refine Up.trans ?_ (Up.drew _) | refine Up.trans ?_ (Up.drewN _ _) | refine Up.trans ?_ (Up.alloc _ _) | refine Up.trans ?_ (Go.RowKit.Hid.out (by assumption))))).stored (show w.heap.size ≤ w.heap.size + 1 + 1 by omega) (.int .i64 X) (.int .i64 Y))
  go_wp2
  obtain ⟨z0, z1, -, -, -⟩ := HFF.out
  refine bodyPost_ret (by simp [results, Tryz.results12, go_sem, z0, z1]; try rfl) rfl ?_
  exact ⟨rfl, HUF.out⟩

set_option maxHeartbeats 8000000 in
set_option maxRecDepth 10000 in
theorem refCmp_arg (x1 y1 x2 y2 : Int) (w : World) (h1 : Rng x1 y1) (h2 : Rng x2 y2) (hk : (okNum x1 y1 && okNum x2 y2) = false) :
    Calls Tryz.prog 14 #[.agg #[.int .i64 x1, .int .i64 y1], .agg #[.int .i64 x2, .int .i64 y2]] w fun e w' => e = .returned (.tuple #[.int .i64 0, .int .i64 1]) ∧ Up w w' := by
  obtain ⟨wB, hwB, hn1, hn2, hu0, hall⟩ := startAll3 w x1 y1 x2 y2 h1 h2
  rw [hk] at hall
  have HALL := Lib.hid hall
  have HN1 := Lib.hid hn1
  have HN2 := Lib.hid hn2
  have HU := Lib.hid hu0
  have HWB := Lib.hid hwB
  clear hk hall hn1 hn2 hu0 hwB
  go_enter Tryz.func14, Tryz.ntmps14
  go_wp2_with fail
  rw [HWB.out]
  refine Calls.mono HALL.out ?_
  rintro e w1 ⟨rfl, hu1⟩
  have HU1 := Lib.hid hu1
  clear hu1 HWB HALL
  go_wp2
  refine bodyPost_ret (by simp [results, Tryz.results14, go_sem]; try rfl) rfl ?_
  exact ⟨rfl, by (repeat (first | exact Below.refl _ _ | exact Go.RowKit.Hid.out (by assumption) | refine Up.trans ?_ (Up.drew _) | refine Up.trans ?_ (Up.drewN _ _) | refine Up.trans ?_ (Up.alloc _ _) | refine Up.trans ?_ (Go.RowKit.Hid.out (by assumption))))⟩

set_option maxHeartbeats 8000000 in
set_option maxRecDepth 10000 in
theorem refCmp_ok (x1 y1 x2 y2 : Int) (w : World) (hk1 : okNum x1 y1 = true) (hk2 : okNum x2 y2 = true) :
    Calls Tryz.prog 14 #[.agg #[.int .i64 x1, .int .i64 y1], .agg #[.int .i64 x2, .int .i64 y2]] w fun e w' => e = .returned (.tuple #[.int .i64 (x1 * y2 - x2 * y1).sign, .int .i64 0]) ∧ Up w w' := by
  have h1 : Rng x1 y1 := by have := ok_bounds hk1; exact ⟨by omega, by omega, by omega, by omega⟩
  have h2 : Rng x2 y2 := by have := ok_bounds hk2; exact ⟨by omega, by omega, by omega, by omega⟩
  have hk : (okNum x1 y1 && okNum x2 y2) = true := by rw [hk1, hk2]; rfl
  have HTa := Lib.hid (fun W => refTo_q x1 y1 W hk1)
  have HTb := Lib.hid (fun W => refTo_q x2 y2 W hk2)
  obtain ⟨sg, hsg⟩ : ∃ sg, sg = (ratOf x1 y1 - ratOf x2 y2).num.sign := ⟨_, rfl⟩
  have HC := Lib.hid (fun W u1 u2 (k1 : RQ W u1 (ratOf x1 y1)) (k2 : RQ W u2 (ratOf x2 y2)) => refRatCompare_q u1 u2 _ _ 3 3 W k1 k2 (ok_QB hk1) (ok_QB hk2) (by omega))
  rw [← hsg] at HC
  rw [sub_sign, (ratOf_ok hk1).1, (ratOf_ok hk1).2, (ratOf_ok hk2).1, (ratOf_ok hk2).2] at hsg
  rw [← hsg]
  clear hk1 hk2 hsg
  obtain ⟨wB, hwB, hn1, hn2, hu0, hall⟩ := startAll3 w x1 y1 x2 y2 h1 h2
  rw [hk] at hall
  have HALL := Lib.hid hall
  have HN1 := Lib.hid hn1
  have HN2 := Lib.hid hn2
  have HU := Lib.hid hu0
  have HWB := Lib.hid hwB
  clear hk hall hn1 hn2 hu0 hwB
  go_enter Tryz.func14, Tryz.ntmps14
  go_wp2_with fail
  rw [HWB.out]
  refine Calls.mono HALL.out ?_
  rintro e w1 ⟨rfl, hu1⟩
  have HU1 := Lib.hid hu1
  clear hu1 HWB HALL
  obtain ⟨a0, a1, -, -, la⟩ := (HN1.out.up (w' := w1) (by (repeat (first | exact Below.refl _ _ | exact Go.RowKit.Hid.out (by assumption) | refine Up.trans ?_ (Up.drew _) | refine Up.trans ?_ (Up.drewN _ _) | refine Up.trans ?_ (Up.alloc _ _) | refine Up.trans ?_ (Go.RowKit.Hid.out (by assumption)))))).facts
  obtain ⟨b0, b1, -, -, lb⟩ := (HN2.out.up (w' := w1) (by (repeat (first | exact Below.refl _ _ | exact Go.RowKit.Hid.out (by assumption) | refine Up.trans ?_ (Up.drew _) | refine Up.trans ?_ (Up.drewN _ _) | refine Up.trans ?_ (Up.alloc _ _) | refine Up.trans ?_ (Go.RowKit.Hid.out (by assumption)))))).facts
  go_upto_region 3 with fail
  go_region_held3 (fun w' => w'.cell? ⟨w.heap.size, 0, none⟩ = some (.int .i64 x1) ∧ w'.cell? ⟨w.heap.size, 1, none⟩ = some (.int .i64 y1) ∧ w'.cell? ⟨w.heap.size + 1, 0, none⟩ = some (.int .i64 x2) ∧ w'.cell? ⟨w.heap.size + 1, 1, none⟩ = some (.int .i64 y2)) (go_keep)
    ((first
      | (have HGUARD := HVw3; go_at_call 36
         refine Calls.mono (HC.out _ _ _ (HVw2.out.up (by (repeat (first | exact Below.refl _ _ | exact Go.RowKit.Hid.out (by assumption) | refine Up.trans ?_ (Up.drew _) | refine Up.trans ?_ (Up.drewN _ _) | refine Up.trans ?_ (Up.alloc _ _) | refine Up.trans ?_ (Go.RowKit.Hid.out (by assumption)))))) (HVw3.out.up (by (repeat (first | exact Below.refl _ _ | exact Go.RowKit.Hid.out (by assumption) | refine Up.trans ?_ (Up.drew _) | refine Up.trans ?_ (Up.drewN _ _) | refine Up.trans ?_ (Up.alloc _ _) | refine Up.trans ?_ (Go.RowKit.Hid.out (by assumption))))))) ?_
         rintro e w4 ⟨rfl, hu⟩
         have HUw4 := Lib.hid hu
         clear hu
         obtain ⟨a0, a1, -, -, la⟩ := (HN1.out.up (w' := w4) (by (repeat (first | exact Below.refl _ _ | exact Go.RowKit.Hid.out (by assumption) | refine Up.trans ?_ (Up.drew _) | refine Up.trans ?_ (Up.drewN _ _) | refine Up.trans ?_ (Up.alloc _ _) | refine Up.trans ?_ (Go.RowKit.Hid.out (by assumption)))))).facts
         obtain ⟨b0, b1, -, -, lb⟩ := (HN2.out.up (w' := w4) (by (repeat (first | exact Below.refl _ _ | exact Go.RowKit.Hid.out (by assumption) | refine Up.trans ?_ (Up.drew _) | refine Up.trans ?_ (Up.drewN _ _) | refine Up.trans ?_ (Up.alloc _ _) | refine Up.trans ?_ (Go.RowKit.Hid.out (by assumption)))))).facts)
      | (have HGUARD := HVw2; go_at_call_of 26 (Value.agg #[.int .i64 x2, .int .i64 y2])
         refine Calls.mono (HTb.out _) ?_
         rintro e w3 ⟨v, rfl, hv, hu⟩
         have HUw3 := Lib.hid hu
         have HVw3 := Lib.hid hv
         clear hu hv
         obtain ⟨a0, a1, -, -, la⟩ := (HN1.out.up (w' := w3) (by (repeat (first | exact Below.refl _ _ | exact Go.RowKit.Hid.out (by assumption) | refine Up.trans ?_ (Up.drew _) | refine Up.trans ?_ (Up.drewN _ _) | refine Up.trans ?_ (Up.alloc _ _) | refine Up.trans ?_ (Go.RowKit.Hid.out (by assumption)))))).facts
         obtain ⟨b0, b1, -, -, lb⟩ := (HN2.out.up (w' := w3) (by (repeat (first | exact Below.refl _ _ | exact Go.RowKit.Hid.out (by assumption) | refine Up.trans ?_ (Up.drew _) | refine Up.trans ?_ (Up.drewN _ _) | refine Up.trans ?_ (Up.alloc _ _) | refine Up.trans ?_ (Go.RowKit.Hid.out (by assumption)))))).facts)
      | (go_at_call_of 26 (Value.agg #[.int .i64 x1, .int .i64 y1])
         refine Calls.mono (HTa.out _) ?_
         rintro e w2 ⟨v, rfl, hv, hu⟩
         have HUw2 := Lib.hid hu
         have HVw2 := Lib.hid hv
         clear hu hv
         obtain ⟨a0, a1, -, -, la⟩ := (HN1.out.up (w' := w2) (by (repeat (first | exact Below.refl _ _ | exact Go.RowKit.Hid.out (by assumption) | refine Up.trans ?_ (Up.drew _) | refine Up.trans ?_ (Up.drewN _ _) | refine Up.trans ?_ (Up.alloc _ _) | refine Up.trans ?_ (Go.RowKit.Hid.out (by assumption)))))).facts
         obtain ⟨b0, b1, -, -, lb⟩ := (HN2.out.up (w' := w2) (by (repeat (first | exact Below.refl _ _ | exact Go.RowKit.Hid.out (by assumption) | refine Up.trans ?_ (Up.drew _) | refine Up.trans ?_ (Up.drewN _ _) | refine Up.trans ?_ (Up.alloc _ _) | refine Up.trans ?_ (Go.RowKit.Hid.out (by assumption)))))).facts)))
  go_wp2
  refine bodyPost_ret (by simp [results, Tryz.results14, go_sem]; try rfl) rfl ?_
  exact ⟨rfl, by (repeat (first | exact Below.refl _ _ | exact Go.RowKit.Hid.out (by assumption) | refine Up.trans ?_ (Up.drew _) | refine Up.trans ?_ (Up.drewN _ _) | refine Up.trans ?_ (Up.alloc _ _) | refine Up.trans ?_ (Go.RowKit.Hid.out (by assumption))))⟩

set_option maxHeartbeats 8000000 in
set_option maxRecDepth 10000 in
theorem numCmp_arg (x1 y1 x2 y2 : Int) (w : World) (h1 : Rng x1 y1) (h2 : Rng x2 y2) (hk : (okNum x1 y1 && okNum x2 y2) = false) (ht : Tab w) :
    Calls Tryz.prog 13 #[.agg #[.int .i64 x1, .int .i64 y1], .agg #[.int .i64 x2, .int .i64 y2]] w fun e w' => e = .returned (.tuple #[.int .i64 0, .int .i64 1]) ∧ Up w w' := by
  have HV1 := Lib.hid (fun W (hu : Up w W) => valid_any x1 y1 W h1.1 h1.2.1 h1.2.2.1 h1.2.2.2 (ht.up hu))
  have HV2 := Lib.hid (fun W (hu : Up w W) => valid_any x2 y2 W h2.1 h2.2.1 h2.2.2.1 h2.2.2.2 (ht.up hu))
  rcases hk1 : okNum x1 y1 with _ | _
  · rw [hk1] at HV1
    clear hk hk1 ht h1 h2
    obtain ⟨wB, hwB, hn1, hn2, hu0, -⟩ := startN2 w x1 y1 x2 y2
    have HN1 := Lib.hid hn1
    have HN2 := Lib.hid hn2
    have HU := Lib.hid hu0
    have HWB := Lib.hid hwB
    clear hn1 hn2 hu0 hwB
    go_enter Tryz.func13, Tryz.ntmps13
    go_wp2_with fail
    rw [HWB.out]
    clear HWB
    refine Calls.mono (HV1.out _ (by (repeat (first | exact Below.refl _ _ | exact Go.RowKit.Hid.out (by assumption) | refine Up.trans ?_ (Up.drew _) | refine Up.trans ?_ (Up.drewN _ _) | refine Up.trans ?_ (Up.alloc _ _) | refine Up.trans ?_ (Go.RowKit.Hid.out (by assumption)))))) ?_
    rintro e w1 ⟨rfl, hu1⟩
    have HU1 := Lib.hid hu1
    clear hu1
    go_wp2
    refine bodyPost_ret (by simp [results, Tryz.results13, go_sem]; try rfl) rfl ?_
    exact ⟨rfl, by (repeat (first | exact Below.refl _ _ | exact Go.RowKit.Hid.out (by assumption) | refine Up.trans ?_ (Up.drew _) | refine Up.trans ?_ (Up.drewN _ _) | refine Up.trans ?_ (Up.alloc _ _) | refine Up.trans ?_ (Go.RowKit.Hid.out (by assumption))))⟩
  · rw [hk1] at HV1 hk
    rw [Bool.true_and] at hk
    rw [hk] at HV2
    clear hk hk1 ht h1 h2
    obtain ⟨wB, hwB, hn1, hn2, hu0, -⟩ := startN2 w x1 y1 x2 y2
    have HN1 := Lib.hid hn1
    have HN2 := Lib.hid hn2
    have HU := Lib.hid hu0
    have HWB := Lib.hid hwB
    clear hn1 hn2 hu0 hwB
    go_enter Tryz.func13, Tryz.ntmps13
    go_wp2_with fail
    rw [HWB.out]
    clear HWB
    refine Calls.mono (HV1.out _ (by (repeat (first | exact Below.refl _ _ | exact Go.RowKit.Hid.out (by assumption) | refine Up.trans ?_ (Up.drew _) | refine Up.trans ?_ (Up.drewN _ _) | refine Up.trans ?_ (Up.alloc _ _) | refine Up.trans ?_ (Go.RowKit.Hid.out (by assumption)))))) ?_
    rintro e w1 ⟨rfl, hu1⟩
    have HU1 := Lib.hid hu1
    clear hu1
    obtain ⟨b0, b1, -, -, lb⟩ := (HN2.out.up (w' := w1) (by (repeat (first | exact Below.refl _ _ | exact Go.RowKit.Hid.out (by assumption) | refine Up.trans ?_ (Up.drew _) | refine Up.trans ?_ (Up.drewN _ _) | refine Up.trans ?_ (Up.alloc _ _) | refine Up.trans ?_ (Go.RowKit.Hid.out (by assumption)))))).facts
    go_wp2_with fail
    refine Calls.mono (HV2.out _ (by (repeat (first | exact Below.refl _ _ | exact Go.RowKit.Hid.out (by assumption) | refine Up.trans ?_ (Up.drew _) | refine Up.trans ?_ (Up.drewN _ _) | refine Up.trans ?_ (Up.alloc _ _) | refine Up.trans ?_ (Go.RowKit.Hid.out (by assumption)))))) ?_
    rintro e w2 ⟨rfl, hu2⟩
    have HU2 := Lib.hid hu2
    clear hu2
    go_wp2
    refine bodyPost_ret (by simp [results, Tryz.results13, go_sem]; try rfl) rfl ?_
    exact ⟨rfl, by (repeat (first | exact Below.refl _ _ | exact Go.RowKit.Hid.out (by assumption) | refine Up.trans ?_ (Up.drew _) | refine Up.trans ?_ (Up.drewN _ _) | refine Up.trans ?_ (Up.alloc _ _) | refine Up.trans ?_ (Go.RowKit.Hid.out (by assumption))))⟩

set_option maxHeartbeats 8000000 in
set_option maxRecDepth 10000 in
theorem numCmp_ok (x1 y1 x2 y2 : Int) (w : World) (hk1 : okNum x1 y1 = true) (hk2 : okNum x2 y2 = true) (ht : Tab w) :
    Calls Tryz.prog 13 #[.agg #[.int .i64 x1, .int .i64 y1], .agg #[.int .i64 x2, .int .i64 y2]] w fun e w' => e = .returned (.tuple #[.int .i64 (x1 * y2 - x2 * y1).sign, .int .i64 0]) ∧ Up w w' := by
  have q1 := ok_bounds hk1
  have q2 := ok_bounds hk2
  have HV1 := Lib.hid (fun W (hu : Up w W) => valid_any x1 y1 W (by omega) (by omega) (by omega) (by omega) (ht.up hu))
  have HV2 := Lib.hid (fun W (hu : Up w W) => valid_any x2 y2 W (by omega) (by omega) (by omega) (by omega) (ht.up hu))
  rw [hk1] at HV1
  rw [hk2] at HV2
  obtain ⟨e1, e2⟩ := ratOf_ok hk1
  obtain ⟨e3, e4⟩ := ratOf_ok hk2
  have f1 := ok_FB hk1
  have f2 := ok_FB hk2
  have HO1 := Lib.hid (fun W => fracOf_any x1 y1 (ratOf x1 y1) W e1 e2 (by omega) (by omega) (by omega) (by omega))
  have HO2 := Lib.hid (fun W => fracOf_any x2 y2 (ratOf x2 y2) W e3 e4 (by omega) (by omega) (by omega) (by omega))
  have HC := Lib.hid (fun W u1 u2 (hv1 : FV W u1 (ratOf x1 y1)) (hv2 : FV W u2 (ratOf x2 y2)) => fracCmp_any u1 u2 (ratOf x1 y1) (ratOf x2 y2) W hv1 hv2 f1 f2)
  rw [e1, e2, e3, e4] at HC
  obtain ⟨sg, hsg⟩ : ∃ sg, sg = (x1 * y2 - x2 * y1).sign := ⟨_, rfl⟩
  rw [← hsg] at HC ⊢
  clear hk1 hk2 ht q1 q2 e1 e2 e3 e4 f1 f2 hsg
  obtain ⟨wB, hwB, hn1, hn2, hu0, -⟩ := startN2 w x1 y1 x2 y2
  have HN1 := Lib.hid hn1
  have HN2 := Lib.hid hn2
  have HU := Lib.hid hu0
  have HWB := Lib.hid hwB
  clear hn1 hn2 hu0 hwB
  go_enter Tryz.func13, Tryz.ntmps13
  go_wp2_with fail
  rw [HWB.out]
  clear HWB
  refine Calls.mono (HV1.out _ (by (repeat (first | exact Below.refl _ _ | exact Go.RowKit.Hid.out (by assumption) | refine Up.trans ?_ (Up.drew _) | refine Up.trans ?_ (Up.drewN _ _) | refine Up.trans ?_ (Up.alloc _ _) | refine Up.trans ?_ (Go.RowKit.Hid.out (by assumption)))))) ?_
  rintro e w1 ⟨rfl, hu1⟩
  have HU1 := Lib.hid hu1
  clear hu1
  obtain ⟨b0, b1, -, -, lb⟩ := (HN2.out.up (w' := w1) (by (repeat (first | exact Below.refl _ _ | exact Go.RowKit.Hid.out (by assumption) | refine Up.trans ?_ (Up.drew _) | refine Up.trans ?_ (Up.drewN _ _) | refine Up.trans ?_ (Up.alloc _ _) | refine Up.trans ?_ (Go.RowKit.Hid.out (by assumption)))))).facts
  go_wp2_with fail
  refine Calls.mono (HV2.out _ (by (repeat (first | exact Below.refl _ _ | exact Go.RowKit.Hid.out (by assumption) | refine Up.trans ?_ (Up.drew _) | refine Up.trans ?_ (Up.drewN _ _) | refine Up.trans ?_ (Up.alloc _ _) | refine Up.trans ?_ (Go.RowKit.Hid.out (by assumption)))))) ?_
  rintro e w2 ⟨rfl, hu2⟩
  have HU2 := Lib.hid hu2
  clear hu2
  obtain ⟨a0, a1, -, -, la⟩ := (HN1.out.up (w' := w2) (by (repeat (first | exact Below.refl _ _ | exact Go.RowKit.Hid.out (by assumption) | refine Up.trans ?_ (Up.drew _) | refine Up.trans ?_ (Up.drewN _ _) | refine Up.trans ?_ (Up.alloc _ _) | refine Up.trans ?_ (Go.RowKit.Hid.out (by assumption)))))).facts
  obtain ⟨b0, b1, -, -, lb⟩ := (HN2.out.up (w' := w2) (by (repeat (first | exact Below.refl _ _ | exact Go.RowKit.Hid.out (by assumption) | refine Up.trans ?_ (Up.drew _) | refine Up.trans ?_ (Up.drewN _ _) | refine Up.trans ?_ (Up.alloc _ _) | refine Up.trans ?_ (Go.RowKit.Hid.out (by assumption)))))).facts
  go_wp2_with fail
  go_region_held3 (fun w' => w'.cell? ⟨w.heap.size, 0, none⟩ = some (.int .i64 x1) ∧ w'.cell? ⟨w.heap.size, 1, none⟩ = some (.int .i64 y1) ∧ w'.cell? ⟨w.heap.size + 1, 0, none⟩ = some (.int .i64 x2) ∧ w'.cell? ⟨w.heap.size + 1, 1, none⟩ = some (.int .i64 y2)) (go_keep)
    ((first
      | (go_at_call_of 34 (Value.int IntKind.i64 x1)
         refine Calls.mono (HO1.out _) ?_
         rintro e w5 ⟨v5, rfl, hv5, hu5⟩
         have HU5 := Lib.hid hu5
         obtain ⟨a0, a1, -, -, la⟩ := (HN1.out.up (w' := w5) (by (repeat (first | exact Below.refl _ _ | exact Go.RowKit.Hid.out (by assumption) | refine Up.trans ?_ (Up.drew _) | refine Up.trans ?_ (Up.drewN _ _) | refine Up.trans ?_ (Up.alloc _ _) | refine Up.trans ?_ (Go.RowKit.Hid.out (by assumption)))))).facts
         obtain ⟨b0, b1, -, -, lb⟩ := (HN2.out.up (w' := w5) (by (repeat (first | exact Below.refl _ _ | exact Go.RowKit.Hid.out (by assumption) | refine Up.trans ?_ (Up.drew _) | refine Up.trans ?_ (Up.drewN _ _) | refine Up.trans ?_ (Up.alloc _ _) | refine Up.trans ?_ (Go.RowKit.Hid.out (by assumption)))))).facts
         have HV5 := Lib.hid hv5
         clear hv5 hu5)
      | (go_at_call_of 34 (Value.int IntKind.i64 x2)
         refine Calls.mono (HO2.out _) ?_
         rintro e w6 ⟨v6, rfl, hv6, hu6⟩
         have HU6 := Lib.hid hu6
         obtain ⟨a0, a1, -, -, la⟩ := (HN1.out.up (w' := w6) (by (repeat (first | exact Below.refl _ _ | exact Go.RowKit.Hid.out (by assumption) | refine Up.trans ?_ (Up.drew _) | refine Up.trans ?_ (Up.drewN _ _) | refine Up.trans ?_ (Up.alloc _ _) | refine Up.trans ?_ (Go.RowKit.Hid.out (by assumption)))))).facts
         obtain ⟨b0, b1, -, -, lb⟩ := (HN2.out.up (w' := w6) (by (repeat (first | exact Below.refl _ _ | exact Go.RowKit.Hid.out (by assumption) | refine Up.trans ?_ (Up.drew _) | refine Up.trans ?_ (Up.drewN _ _) | refine Up.trans ?_ (Up.alloc _ _) | refine Up.trans ?_ (Go.RowKit.Hid.out (by assumption)))))).facts
         have HV6 := Lib.hid hv6
         have HV5b := Lib.hid (HV5.out.up hu6)
         clear hv6 hu6)
      | (go_at_call 35
         refine Calls.mono (HC.out _ _ _ HV5b.out HV6.out) ?_
         rintro e w7 ⟨rfl, hu7⟩
         have HU7 := Lib.hid hu7
         obtain ⟨a0, a1, -, -, la⟩ := (HN1.out.up (w' := w7) (by (repeat (first | exact Below.refl _ _ | exact Go.RowKit.Hid.out (by assumption) | refine Up.trans ?_ (Up.drew _) | refine Up.trans ?_ (Up.drewN _ _) | refine Up.trans ?_ (Up.alloc _ _) | refine Up.trans ?_ (Go.RowKit.Hid.out (by assumption)))))).facts
         obtain ⟨b0, b1, -, -, lb⟩ := (HN2.out.up (w' := w7) (by (repeat (first | exact Below.refl _ _ | exact Go.RowKit.Hid.out (by assumption) | refine Up.trans ?_ (Up.drew _) | refine Up.trans ?_ (Up.drewN _ _) | refine Up.trans ?_ (Up.alloc _ _) | refine Up.trans ?_ (Go.RowKit.Hid.out (by assumption)))))).facts
         clear hu7)))
  go_wp2
  refine bodyPost_ret (by simp [results, Tryz.results13, go_sem]; try rfl) rfl ?_
  exact ⟨rfl, by (repeat (first | exact Below.refl _ _ | exact Go.RowKit.Hid.out (by assumption) | refine Up.trans ?_ (Up.drew _) | refine Up.trans ?_ (Up.drewN _ _) | refine Up.trans ?_ (Up.alloc _ _) | refine Up.trans ?_ (Go.RowKit.Hid.out (by assumption))))⟩

end Go.Proofs.YtimlainffbpfdaaGreatDoor
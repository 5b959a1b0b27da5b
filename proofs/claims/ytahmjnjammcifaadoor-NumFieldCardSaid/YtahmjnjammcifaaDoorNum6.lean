import Derived.Test.YtahmjnjammcifaaDoorNum5
namespace Go.Proofs.YtahmjnjammcifaaDoor
open Go.RowKit Fm

set_option maxHeartbeats 1000000 in
set_option maxRecDepth 10000 in
/-- Between of two numbers that are greater than 0, in their order. -/
theorem between_pos (x1 y1 x2 y2 X Y : Int) (w : World) (hk1 : okNum x1 y1 = true) (hk2 : okNum x2 y2 = true) (hle : x1 * y2 - x2 * y1 ≤ 0) (hp : 0 < x1) (ht : Tab w)
    (hrec : ∀ W, Up w W → Calls Tryd.prog 42 #[.agg #[.int .i64 x1, .int .i64 y1], .agg #[.int .i64 x2, .int .i64 y2]] W fun e w' => e = .returned (.agg #[.int .i64 X, .int .i64 Y]) ∧ Up W w') :
    Calls Tryd.prog 15 #[.agg #[.int .i64 x1, .int .i64 y1], .agg #[.int .i64 x2, .int .i64 y2]] w fun e w' => e = .returned (.tuple #[.agg #[.int .i64 X, .int .i64 Y], .int .i64 0]) ∧ Up w w' := by
  have q1 := ok_bounds hk1
  have q2 := ok_bounds hk2
  have HV1 := Lib.hid (fun W (hu : Up w W) => valid_any x1 y1 W (by omega) (by omega) (by omega) (by omega) (ht.up hu))
  have HV2 := Lib.hid (fun W (hu : Up w W) => valid_any x2 y2 W (by omega) (by omega) (by omega) (by omega) (ht.up hu))
  rw [hk1] at HV1
  rw [hk2] at HV2
  obtain ⟨e1, e2⟩ := ratOf_ok hk1
  obtain ⟨e3, e4⟩ := ratOf_ok hk2
  have f1 := ok_FB hk1
  have f2 := ok_FB hk2
  have HO1 := Lib.hid (fun W => fracOf_any x1 y1 (ratOf x1 y1) W e1 e2 (by omega) (by omega) (by omega) (by omega))
  have HO2 := Lib.hid (fun W => fracOf_any x2 y2 (ratOf x2 y2) W e3 e4 (by omega) (by omega) (by omega) (by omega))
  have HC := Lib.hid (fun W u1 u2 (hv1 : FV W u1 (ratOf x1 y1)) (hv2 : FV W u2 (ratOf x2 y2)) => fracCmp_any u1 u2 (ratOf x1 y1) (ratOf x2 y2) W hv1 hv2 f1 f2)
  rw [e1, e2, e3, e4] at HC
  obtain ⟨sg, hsg⟩ : ∃ sg, sg = (x1 * y2 - x2 * y1).sign := ⟨_, rfl⟩
  rw [← hsg] at HC
  have hsg0 : ¬ 0 < sg := by
    rw [hsg]; intro h; have := Int.sign_pos_iff.1 h; omega
  have hsd : decide (0 < sg) = false := decide_eq_false hsg0
  have HREC := Lib.hid hrec
  clear hk1 hk2 hle ht hrec q1 q2 e1 e2 e3 e4 f1 f2 hsg
  go_enter Tryd.func15, Tryd.ntmps15
  go_wp2_with fail
  obtain ⟨wB, hwB, hn1, hn2, hr, hu0⟩ := startNN w x1 y1 x2 y2
  rw [hwB]
  clear hwB
  have HN1 := Lib.hid hn1
  have HN2 := Lib.hid hn2
  have HR := Lib.hid hr
  have HU := Lib.hid hu0
  clear hn1 hn2 hr hu0
  refine Calls.mono (HV1.out _ (by (repeat (first | exact Below.refl _ _ | exact Go.RowKit.Hid.out (by assumption) | refine Up.trans ?_ (Up.drew _) | refine Up.trans ?_ (Up.drewN _ _) | refine Up.trans ?_ (Up.alloc _ _) | refine Up.trans ?_ (Go.RowKit.Hid.out (by assumption)))))) ?_
  rintro e w1 ⟨rfl, hu1⟩
  have HU1 := Lib.hid hu1
  clear hu1
  obtain ⟨b0, b1, -, -, lb⟩ := (HN2.out.up (w' := w1) (by (repeat (first | exact Below.refl _ _ | exact Go.RowKit.Hid.out (by assumption) | refine Up.trans ?_ (Up.drew _) | refine Up.trans ?_ (Up.drewN _ _) | refine Up.trans ?_ (Up.alloc _ _) | refine Up.trans ?_ (Go.RowKit.Hid.out (by assumption)))))).facts
  go_wp2_with fail
  refine Calls.mono (HV2.out _ (by (repeat (first | exact Below.refl _ _ | exact Go.RowKit.Hid.out (by assumption) | refine Up.trans ?_ (Up.drew _) | refine Up.trans ?_ (Up.drewN _ _) | refine Up.trans ?_ (Up.alloc _ _) | refine Up.trans ?_ (Go.RowKit.Hid.out (by assumption)))))) ?_
  rintro e w2 ⟨rfl, hu2⟩
  have HU2 := Lib.hid hu2
  clear hu2
  obtain ⟨a0, a1, -, -, la⟩ := (HN1.out.up (w' := w2) (by (repeat (first | exact Below.refl _ _ | exact Go.RowKit.Hid.out (by assumption) | refine Up.trans ?_ (Up.drew _) | refine Up.trans ?_ (Up.drewN _ _) | refine Up.trans ?_ (Up.alloc _ _) | refine Up.trans ?_ (Go.RowKit.Hid.out (by assumption)))))).facts
  obtain ⟨b0, b1, -, -, lb⟩ := (HN2.out.up (w' := w2) (by (repeat (first | exact Below.refl _ _ | exact Go.RowKit.Hid.out (by assumption) | refine Up.trans ?_ (Up.drew _) | refine Up.trans ?_ (Up.drewN _ _) | refine Up.trans ?_ (Up.alloc _ _) | refine Up.trans ?_ (Go.RowKit.Hid.out (by assumption)))))).facts
  go_wp2_with fail
  go_region_held3 (fun w' => w'.cell? ⟨w.heap.size, 0, none⟩ = some (.int .i64 x1) ∧ w'.cell? ⟨w.heap.size, 1, none⟩ = some (.int .i64 y1) ∧ w'.cell? ⟨w.heap.size + 1, 0, none⟩ = some (.int .i64 x2) ∧ w'.cell? ⟨w.heap.size + 1, 1, none⟩ = some (.int .i64 y2)) (go_keep)
    ((first
      | (go_at_call_of 40 (Value.int IntKind.i64 x1)
         refine Calls.mono (HO1.out _) ?_
         rintro e w5 ⟨v5, rfl, hv5, hu5⟩
         have HU5 := Lib.hid hu5
         obtain ⟨a0, a1, -, -, la⟩ := (HN1.out.up (w' := w5) (by (repeat (first | exact Below.refl _ _ | exact Go.RowKit.Hid.out (by assumption) | refine Up.trans ?_ (Up.drew _) | refine Up.trans ?_ (Up.drewN _ _) | refine Up.trans ?_ (Up.alloc _ _) | refine Up.trans ?_ (Go.RowKit.Hid.out (by assumption)))))).facts
         obtain ⟨b0, b1, -, -, lb⟩ := (HN2.out.up (w' := w5) (by (repeat (first | exact Below.refl _ _ | exact Go.RowKit.Hid.out (by assumption) | refine Up.trans ?_ (Up.drew _) | refine Up.trans ?_ (Up.drewN _ _) | refine Up.trans ?_ (Up.alloc _ _) | refine Up.trans ?_ (Go.RowKit.Hid.out (by assumption)))))).facts
         have HV5 := Lib.hid hv5
         clear hv5 hu5)
      | (go_at_call_of 40 (Value.int IntKind.i64 x2)
         refine Calls.mono (HO2.out _) ?_
         rintro e w6 ⟨v6, rfl, hv6, hu6⟩
         have HU6 := Lib.hid hu6
         obtain ⟨a0, a1, -, -, la⟩ := (HN1.out.up (w' := w6) (by (repeat (first | exact Below.refl _ _ | exact Go.RowKit.Hid.out (by assumption) | refine Up.trans ?_ (Up.drew _) | refine Up.trans ?_ (Up.drewN _ _) | refine Up.trans ?_ (Up.alloc _ _) | refine Up.trans ?_ (Go.RowKit.Hid.out (by assumption)))))).facts
         obtain ⟨b0, b1, -, -, lb⟩ := (HN2.out.up (w' := w6) (by (repeat (first | exact Below.refl _ _ | exact Go.RowKit.Hid.out (by assumption) | refine Up.trans ?_ (Up.drew _) | refine Up.trans ?_ (Up.drewN _ _) | refine Up.trans ?_ (Up.alloc _ _) | refine Up.trans ?_ (Go.RowKit.Hid.out (by assumption)))))).facts
         have HV6 := Lib.hid hv6
         have HV5b := Lib.hid (HV5.out.up hu6)
         clear hv6 hu6)
      | (go_at_call 41
         refine Calls.mono (HC.out _ _ _ HV5b.out HV6.out) ?_
         rintro e w7 ⟨rfl, hu7⟩
         have HU7 := Lib.hid hu7
         obtain ⟨a0, a1, -, -, la⟩ := (HN1.out.up (w' := w7) (by (repeat (first | exact Below.refl _ _ | exact Go.RowKit.Hid.out (by assumption) | refine Up.trans ?_ (Up.drew _) | refine Up.trans ?_ (Up.drewN _ _) | refine Up.trans ?_ (Up.alloc _ _) | refine Up.trans ?_ (Go.RowKit.Hid.out (by assumption)))))).facts
         obtain ⟨b0, b1, -, -, lb⟩ := (HN2.out.up (w' := w7) (by (repeat (first | exact Below.refl _ _ | exact Go.RowKit.Hid.out (by assumption) | refine Up.trans ?_ (Up.drew _) | refine Up.trans ?_ (Up.drewN _ _) | refine Up.trans ?_ (Up.alloc _ _) | refine Up.trans ?_ (Go.RowKit.Hid.out (by assumption)))))).facts
         clear hu7)))
  go_wp2_with fail
  refine Calls.mono (HREC.out _ (by (repeat (first | exact Below.refl _ _ | exact Go.RowKit.Hid.out (by assumption) | refine Up.trans ?_ (Up.drew _) | refine Up.trans ?_ (Up.drewN _ _) | refine Up.trans ?_ (Up.alloc _ _) | refine Up.trans ?_ (Go.RowKit.Hid.out (by assumption)))))) ?_
  rintro e w8 ⟨rfl, hu8⟩
  have HU8 := Lib.hid hu8
  clear hu8
  have HR8 := Lib.hid (HR.out.up (w' := w8) (by (repeat (first | exact Below.refl _ _ | exact Go.RowKit.Hid.out (by assumption) | refine Up.trans ?_ (Up.drew _) | refine Up.trans ?_ (Up.drewN _ _) | refine Up.trans ?_ (Up.alloc _ _) | refine Up.trans ?_ (Go.RowKit.Hid.out (by assumption))))))
  obtain ⟨r0, r1, g0, g1, lr⟩ := HR8.out.facts
  have HFF := Lib.hid ((HR8.out.set X Y).facts)
  have HUF := Lib.hid ((show Up w w8 by (repeat (first | exact Below.refl _ _ | exact Go.RowKit.Hid.out (by assumption) | refine Up.trans ?_ (Up.drew _) | refine Up.trans ?_ (Up.drewN _ _) | refine Up.trans ?_ (Up.alloc _ _) | refine Up.trans ?_ (Go.RowKit.Hid.out (by assumption))))).stored (show w.heap.size ≤ w.heap.size + 1 + 1 by omega) (.int .i64 X) (.int .i64 Y))
  go_wp2
  obtain ⟨z0, z1, -, -, -⟩ := HFF.out
  refine bodyPost_ret (by simp [results, Tryd.results15, go_sem, z0, z1]; try rfl) rfl ?_
  exact ⟨rfl, HUF.out⟩

theorem simplest_awake (w : World) : Calls Tryd.prog 42 #[.agg #[.int .i64 3, .int .i64 10], .agg #[.int .i64 2, .int .i64 5]] w fun e w' => e = .returned (.agg #[.int .i64 1, .int .i64 3]) ∧ Up w w' := by
  have h1 := fun W => simplest_int 5 2 10 3 W (by decide) (by decide) (by decide) (by decide) (by decide) (by decide) (by decide)
  exact simplest_step 3 10 2 5 0 3 1 w (by decide) (by decide) (by decide) (by decide) (by decide) (by decide) (by decide) (by decide) (by unfold wrap64; omega) (by unfold wrap64; omega) (by unfold wrap64; omega) (by unfold wrap64; omega) (by unfold wrap64; omega) (by unfold wrap64; omega) (fun W _ => h1 W)

theorem between_awake (w : World) (ht : Tab w) : Calls Tryd.prog 15 #[.agg #[.int .i64 3, .int .i64 10], .agg #[.int .i64 2, .int .i64 5]] w fun e w' => e = .returned (.tuple #[.agg #[.int .i64 1, .int .i64 3], .int .i64 0]) ∧ Up w w' :=
  between_pos 3 10 2 5 1 3 w (by decide) (by decide) (by decide) (by decide) ht (fun W _ => simplest_awake W)
end Go.Proofs.YtahmjnjammcifaaDoor

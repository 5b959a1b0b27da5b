import Derived.Test.YtahmjnjammcifaaDoorFrac4
namespace Go.Proofs.YtahmjnjammcifaaDoor
open Go.RowKit Fm

set_option maxHeartbeats 4000000 in
set_option maxRecDepth 10000 in
theorem fracMinus_any (v1 v2 : Value) (a b : Rat) (w : World) (h1 : FV w v1 a) (h2 : FV w v2 b) (ha : FB a 16777216) (hb : FB b 16777216) (ht : Tab w) :
    Calls Tryd.prog 58 #[v1, v2] w fun e w' => ∃ v, e = .returned v ∧ FV w' v (a - b) ∧ Up w w' := by
  have hnb : FB (-b) 16777216 := ⟨by rw [Rat.neg_num]; unfold bl; rw [Int.natAbs_neg]; exact hb.top, by rw [Rat.neg_den]; exact hb.low⟩
  have HM := Lib.hid (fun W u (hu : Up w W) (hv : FV W u (-b)) => fracPlus_any v1 u a (-b) W (h1.up hu) hv ha hnb (ht.up hu))
  rw [← Rat.sub_eq_add_neg] at HM
  obtain ⟨s, A, n, c, t, F, m, k, rfl, hp1, hp2⟩ := h1
  obtain ⟨s2, A2, n2, c2, t2, F2, m2, k2, rfl, hp3, hp4⟩ := h2
  have HNG := Lib.hid (fun W (hu : Up w W) => neg_any _ b.num W (hp3.up hu))
  rw [← Rat.neg_num] at HNG
  have HLW := Lib.hid (fun W (hu : Up w W) => hp4.up hu)
  rw [show (b.den : Int) = ((-b).den : Int) by rw [Rat.neg_den]] at HLW
  clear hp1 hp2 hp3 hp4 ha hb ht hnb
  go_enter Tryd.func58, Tryd.ntmps58
  go_wp2_with fail
  obtain ⟨wB, hwB, hbx, hrs, hu0⟩ := start34 w s (.slice A n c) t (.slice F m k) s2 (.slice A2 n2 c2) t2 (.slice F2 m2 k2)
  rw [hwB]
  clear hwB
  have HBX := Lib.hid hbx
  have HRS := Lib.hid hrs
  have HU := Lib.hid hu0
  obtain ⟨a0, a1, a2, a3, b0, b1, b2, b3, la, lb⟩ := HBX.out
  clear hbx hrs hu0
  have hne1 : (w.heap.size = w.heap.size + 1 + 1) = False := by simp; omega
  have hne2 : (w.heap.size + 1 + 1 = w.heap.size) = False := by simp; omega
  go_region_held3 (fun w' => w'.cell? ⟨w.heap.size, 0, none⟩ = some (.int .i64 s) ∧ w'.cell? ⟨w.heap.size, 1, none⟩ = some (.slice A n c) ∧ w'.cell? ⟨w.heap.size, 2, none⟩ = some (.int .i64 t) ∧ w'.cell? ⟨w.heap.size, 3, none⟩ = some (.slice F m k) ∧ w'.cell? ⟨w.heap.size + 1, 0, none⟩ = some (.int .i64 s2) ∧ w'.cell? ⟨w.heap.size + 1, 1, none⟩ = some (.slice A2 n2 c2) ∧ w'.cell? ⟨w.heap.size + 1, 2, none⟩ = some (.int .i64 t2) ∧ w'.cell? ⟨w.heap.size + 1, 3, none⟩ = some (.slice F2 m2 k2)) (go_keep)
    ((first
      | (go_at_call 63
         refine Calls.mono (HNG.out _ (by (repeat (first | exact Below.refl _ _ | exact Go.RowKit.Hid.out (by assumption) | refine Up.trans ?_ (Up.drew _) | refine Up.trans ?_ (Up.drewN _ _) | refine Up.trans ?_ (Up.alloc _ _) | refine Up.trans ?_ (Go.RowKit.Hid.out (by assumption)))))) ?_
         rintro e w5 ⟨v5, rfl, hv5, hu5⟩
         have HU5 := Lib.hid hu5
         obtain ⟨a0, a1, a2, a3, b0, b1, b2, b3, la, lb⟩ := HBX.out.up (w' := w5) (by (repeat (first | exact Below.refl _ _ | exact Go.RowKit.Hid.out (by assumption) | refine Up.trans ?_ (Up.drew _) | refine Up.trans ?_ (Up.drewN _ _) | refine Up.trans ?_ (Up.alloc _ _) | refine Up.trans ?_ (Go.RowKit.Hid.out (by assumption)))))
         obtain ⟨s5, A5, n5, c5, rfl, -, -, -, -, -⟩ := hv5.open_
         have HV5 := Lib.hid hv5
         clear hv5 hu5)
      | (go_at_call 56
         refine Calls.mono (HM.out _ _ (by (repeat (first | exact Below.refl _ _ | exact Go.RowKit.Hid.out (by assumption) | refine Up.trans ?_ (Up.drew _) | refine Up.trans ?_ (Up.drewN _ _) | refine Up.trans ?_ (Up.alloc _ _) | refine Up.trans ?_ (Go.RowKit.Hid.out (by assumption))))) ⟨_, _, _, _, _, _, _, _, rfl, HV5.out, HLW.out _ (by (repeat (first | exact Below.refl _ _ | exact Go.RowKit.Hid.out (by assumption) | refine Up.trans ?_ (Up.drew _) | refine Up.trans ?_ (Up.drewN _ _) | refine Up.trans ?_ (Up.alloc _ _) | refine Up.trans ?_ (Go.RowKit.Hid.out (by assumption)))))⟩) ?_
         rintro e w7 ⟨v7, rfl, hv7, hu7⟩
         have HU7 := Lib.hid hu7
         obtain ⟨a0, a1, a2, a3, b0, b1, b2, b3, la, lb⟩ := HBX.out.up (w' := w7) (by (repeat (first | exact Below.refl _ _ | exact Go.RowKit.Hid.out (by assumption) | refine Up.trans ?_ (Up.drew _) | refine Up.trans ?_ (Up.drewN _ _) | refine Up.trans ?_ (Up.alloc _ _) | refine Up.trans ?_ (Go.RowKit.Hid.out (by assumption)))))
         obtain ⟨r0, r1, r2, r3, f0, f1, f2, f3⟩ := (HRS.out.up (w' := w7) (by (repeat (first | exact Below.refl _ _ | exact Go.RowKit.Hid.out (by assumption) | refine Up.trans ?_ (Up.drew _) | refine Up.trans ?_ (Up.drewN _ _) | refine Up.trans ?_ (Up.alloc _ _) | refine Up.trans ?_ (Go.RowKit.Hid.out (by assumption)))))).facts
         have HRS7 := Lib.hid (HRS.out.up (w' := w7) (by (repeat (first | exact Below.refl _ _ | exact Go.RowKit.Hid.out (by assumption) | refine Up.trans ?_ (Up.drew _) | refine Up.trans ?_ (Up.drewN _ _) | refine Up.trans ?_ (Up.alloc _ _) | refine Up.trans ?_ (Go.RowKit.Hid.out (by assumption))))))
         obtain ⟨s7, A7, n7, c7, t7, F7, m7, k7, rfl, hq1, hq2⟩ := hv7
         have HV7 := Lib.hid hq1
         have HV8 := Lib.hid hq2
         clear hq1 hq2 hu7)))
  have hq := HRS7.out.stored (.int .i64 s7) (.slice A7 n7 c7) (.int .i64 t7) (.slice F7 m7 k7)
  have HVA := Lib.hid (HV7.out.put4 HRS7.out (.int .i64 s7) (.slice A7 n7 c7) (.int .i64 t7) (.slice F7 m7 k7))
  have HVB := Lib.hid (HV8.out.put4 HRS7.out (.int .i64 s7) (.slice A7 n7 c7) (.int .i64 t7) (.slice F7 m7 k7))
  have HUF := Lib.hid ((show Up w w7 by (repeat (first | exact Below.refl _ _ | exact Go.RowKit.Hid.out (by assumption) | refine Up.trans ?_ (Up.drew _) | refine Up.trans ?_ (Up.drewN _ _) | refine Up.trans ?_ (Up.alloc _ _) | refine Up.trans ?_ (Go.RowKit.Hid.out (by assumption))))).put4 (show w.heap.size ≤ w.heap.size + 1 + 1 by omega) (.int .i64 s7) (.slice A7 n7 c7) (.int .i64 t7) (.slice F7 m7 k7))
  unfold put4 at hq HVA HVB HUF
  obtain ⟨hq0, hq1, hq2, hq3⟩ := hq
  go_wp2
  refine bodyPost_ret (by simp [results, Tryd.results58, go_sem, hq0, hq1, hq2, hq3]; try rfl) rfl ?_
  exact ⟨_, rfl, ⟨_, _, _, _, _, _, _, _, rfl, HVA.out, HVB.out⟩, HUF.out⟩

theorem start34b (w : World) (s : Int) (d : Value) (t : Int) (f : Value) (s2 : Int) (d2 : Value) (t2 : Int) (f2 : Value) :
    ∃ wB, ((w.alloc (.cells #[.int .i64 s, d, .int .i64 t, f] 51)).alloc (.cells #[.int .i64 s2, d2, .int .i64 t2, f2] 51)) = wB ∧
      Boxes4 wB w.heap.size (w.heap.size + 1) s d t f s2 d2 t2 f2 ∧ Up w wB := by
  refine ⟨_, rfl, ?_, (Up.alloc _ _).trans (Up.alloc _ _)⟩
  have h1 : ((w.alloc (.cells #[.int .i64 s, d, .int .i64 t, f] 51)).alloc (.cells #[.int .i64 s2, d2, .int .i64 t2, f2] 51)).heap[w.heap.size]? = some (.cells #[.int .i64 s, d, .int .i64 t, f] 51 (0, 0)) := by
    rw [Below.heap_alloc _ _ _ (by simp), heap_alloc_new]
  have h2 : ((w.alloc (.cells #[.int .i64 s, d, .int .i64 t, f] 51)).alloc (.cells #[.int .i64 s2, d2, .int .i64 t2, f2] 51)).heap[w.heap.size + 1]? = some (.cells #[.int .i64 s2, d2, .int .i64 t2, f2] 51 (0, 0)) := by
    have := heap_alloc_new (w.alloc (.cells #[.int .i64 s, d, .int .i64 t, f] 51)) (.cells #[.int .i64 s2, d2, .int .i64 t2, f2] 51)
    simpa using this
  exact ⟨by rw [cell_of_row _ _ 0 _ _ _ h1]; rfl, by rw [cell_of_row _ _ 1 _ _ _ h1]; rfl, by rw [cell_of_row _ _ 2 _ _ _ h1]; rfl, by rw [cell_of_row _ _ 3 _ _ _ h1]; rfl, by rw [cell_of_row _ _ 0 _ _ _ h2]; rfl, by rw [cell_of_row _ _ 1 _ _ _ h2]; rfl, by rw [cell_of_row _ _ 2 _ _ _ h2]; rfl, by rw [cell_of_row _ _ 3 _ _ _ h2]; rfl, by simp; omega, by simp⟩

set_option maxHeartbeats 4000000 in
set_option maxRecDepth 10000 in
theorem fracCmp_any (v1 v2 : Value) (a b : Rat) (w : World) (h1 : FV w v1 a) (h2 : FV w v2 b) (ha : FB a 16777216) (hb : FB b 16777216) :
    Calls Tryd.prog 41 #[v1, v2] w fun e w' => e = .returned (.int .i64 (a.num * b.den - b.num * a.den).sign) ∧ Up w w' := by
  obtain ⟨s, A, n, c, t, F, m, k, rfl, hp1, hp2⟩ := h1
  obtain ⟨s2, A2, n2, c2, t2, F2, m2, k2, rfl, hp3, hp4⟩ := h2
  have HT1 := Lib.hid (fun W (hu : Up w W) => intTimes_any _ _ a.num b.den W (hp1.up hu) (hp4.up hu) (Nat.le_trans ha.top (by omega)) (Nat.le_trans hb.low (by omega)))
  have HT2 := Lib.hid (fun W (hu : Up w W) => intTimes_any _ _ b.num a.den W (hp3.up hu) (hp2.up hu) (Nat.le_trans hb.top (by omega)) (Nat.le_trans ha.low (by omega)))
  have HC := Lib.hid (fun W u1 u2 (hv1 : IV W u1 (a.num * b.den)) (hv2 : IV W u2 (b.num * a.den)) => intCmp_any u1 u2 _ _ W hv1 hv2 (bl_mul ha.top hb.low (by omega)) (bl_mul hb.top ha.low (by omega)))
  clear hp1 hp2 hp3 hp4 ha hb
  go_enter Tryd.func41, Tryd.ntmps41
  go_wp2_with fail
  obtain ⟨wB, hwB, hbx, hu0⟩ := start34b w s (.slice A n c) t (.slice F m k) s2 (.slice A2 n2 c2) t2 (.slice F2 m2 k2)
  rw [hwB]
  clear hwB
  have HBX := Lib.hid hbx
  have HU := Lib.hid hu0
  obtain ⟨a0, a1, a2, a3, b0, b1, b2, b3, la, lb⟩ := HBX.out
  clear hbx hu0
  go_region_held3 (fun w' => w'.cell? ⟨w.heap.size, 0, none⟩ = some (.int .i64 s) ∧ w'.cell? ⟨w.heap.size, 1, none⟩ = some (.slice A n c) ∧ w'.cell? ⟨w.heap.size, 2, none⟩ = some (.int .i64 t) ∧ w'.cell? ⟨w.heap.size, 3, none⟩ = some (.slice F m k) ∧ w'.cell? ⟨w.heap.size + 1, 0, none⟩ = some (.int .i64 s2) ∧ w'.cell? ⟨w.heap.size + 1, 1, none⟩ = some (.slice A2 n2 c2) ∧ w'.cell? ⟨w.heap.size + 1, 2, none⟩ = some (.int .i64 t2) ∧ w'.cell? ⟨w.heap.size + 1, 3, none⟩ = some (.slice F2 m2 k2)) (go_keep)
    ((first
      | (go_at_call_of 73 (Value.int IntKind.i64 s)
         refine Calls.mono (HT1.out _ (by (repeat (first | exact Below.refl _ _ | exact Go.RowKit.Hid.out (by assumption) | refine Up.trans ?_ (Up.drew _) | refine Up.trans ?_ (Up.drewN _ _) | refine Up.trans ?_ (Up.alloc _ _) | refine Up.trans ?_ (Go.RowKit.Hid.out (by assumption)))))) ?_
         rintro e w5 ⟨v5, rfl, hv5, hu5⟩
         have HU5 := Lib.hid hu5
         obtain ⟨a0, a1, a2, a3, b0, b1, b2, b3, la, lb⟩ := HBX.out.up (w' := w5) (by (repeat (first | exact Below.refl _ _ | exact Go.RowKit.Hid.out (by assumption) | refine Up.trans ?_ (Up.drew _) | refine Up.trans ?_ (Up.drewN _ _) | refine Up.trans ?_ (Up.alloc _ _) | refine Up.trans ?_ (Go.RowKit.Hid.out (by assumption)))))
         have HV5 := Lib.hid hv5
         clear hv5 hu5)
      | (go_at_call_of 73 (Value.int IntKind.i64 s2)
         refine Calls.mono (HT2.out _ (by (repeat (first | exact Below.refl _ _ | exact Go.RowKit.Hid.out (by assumption) | refine Up.trans ?_ (Up.drew _) | refine Up.trans ?_ (Up.drewN _ _) | refine Up.trans ?_ (Up.alloc _ _) | refine Up.trans ?_ (Go.RowKit.Hid.out (by assumption)))))) ?_
         rintro e w6 ⟨v6, rfl, hv6, hu6⟩
         have HU6 := Lib.hid hu6
         obtain ⟨a0, a1, a2, a3, b0, b1, b2, b3, la, lb⟩ := HBX.out.up (w' := w6) (by (repeat (first | exact Below.refl _ _ | exact Go.RowKit.Hid.out (by assumption) | refine Up.trans ?_ (Up.drew _) | refine Up.trans ?_ (Up.drewN _ _) | refine Up.trans ?_ (Up.alloc _ _) | refine Up.trans ?_ (Go.RowKit.Hid.out (by assumption)))))
         have HV6 := Lib.hid hv6
         clear hv6 hu6)
      | (go_at_call 74
         refine Calls.mono (HC.out _ _ _ (by (refine IV.up (Go.RowKit.Hid.out (by assumption)) ?_; (repeat (first | exact Below.refl _ _ | exact Go.RowKit.Hid.out (by assumption) | refine Up.trans ?_ (Up.drew _) | refine Up.trans ?_ (Up.drewN _ _) | refine Up.trans ?_ (Up.alloc _ _) | refine Up.trans ?_ (Go.RowKit.Hid.out (by assumption)))))) (by (refine IV.up (Go.RowKit.Hid.out (by assumption)) ?_; (repeat (first | exact Below.refl _ _ | exact Go.RowKit.Hid.out (by assumption) | refine Up.trans ?_ (Up.drew _) | refine Up.trans ?_ (Up.drewN _ _) | refine Up.trans ?_ (Up.alloc _ _) | refine Up.trans ?_ (Go.RowKit.Hid.out (by assumption))))))) ?_
         rintro e w7 ⟨rfl, hu7⟩
         have HU7 := Lib.hid hu7
         obtain ⟨a0, a1, a2, a3, b0, b1, b2, b3, la, lb⟩ := HBX.out.up (w' := w7) (by (repeat (first | exact Below.refl _ _ | exact Go.RowKit.Hid.out (by assumption) | refine Up.trans ?_ (Up.drew _) | refine Up.trans ?_ (Up.drewN _ _) | refine Up.trans ?_ (Up.alloc _ _) | refine Up.trans ?_ (Go.RowKit.Hid.out (by assumption)))))
         clear hu7)))
  go_wp2
  refine bodyPost_ret (by simp [results, Tryd.results41, go_sem]; try rfl) rfl ?_
  exact ⟨rfl, by (repeat (first | exact Below.refl _ _ | exact Go.RowKit.Hid.out (by assumption) | refine Up.trans ?_ (Up.drew _) | refine Up.trans ?_ (Up.drewN _ _) | refine Up.trans ?_ (Up.alloc _ _) | refine Up.trans ?_ (Go.RowKit.Hid.out (by assumption))))⟩
end Go.Proofs.YtahmjnjammcifaaDoor

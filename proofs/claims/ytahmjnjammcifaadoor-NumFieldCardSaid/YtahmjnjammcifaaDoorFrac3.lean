import Derived.Test.YtahmjnjammcifaaDoorFrac2
namespace Go.Proofs.YtahmjnjammcifaaDoor
open Go.RowKit Fm

/-- Both parts of a fraction have at most k digits. -/
structure FB (q : Rat) (k : Nat) : Prop where
  top : bl q.num ≤ k
  low : bl (q.den : Int) ≤ k
theorem FB.mono {q : Rat} {k l : Nat} (h : FB q k) (hkl : k ≤ l) : FB q l := ⟨Nat.le_trans h.top hkl, Nat.le_trans h.low hkl⟩
theorem bl_mul {x y : Int} {k l m : Nat} (hx : bl x ≤ k) (hy : bl y ≤ l) (hm : k + l ≤ m) : bl (x * y) ≤ m := by
  unfold bl at *
  rw [Int.natAbs_mul]
  refine Nat.le_trans ?_ hm
  have h1 := val_lt (B := 4294967296) (by omega) (digs_ok (B := 4294967296) (by omega) x.natAbs)
  have h2 := val_lt (B := 4294967296) (by omega) (digs_ok (B := 4294967296) (by omega) y.natAbs)
  rw [val_digs (by omega)] at h1 h2
  have h3 := Nat.pow_le_pow_right (n := 4294967296) (by omega) hx
  have h4 := Nat.pow_le_pow_right (n := 4294967296) (by omega) hy
  apply digs_length_le (by omega)
  rw [Nat.pow_add]
  exact Nat.mul_lt_mul'' (Nat.lt_of_lt_of_le h1 h3) (Nat.lt_of_lt_of_le h2 h4)
theorem bl_le_of_le {x y : Nat} (h : x ≤ y) : (digs 4294967296 x).length ≤ (digs 4294967296 y).length := by
  have h1 := val_lt (B := 4294967296) (by omega) (digs_ok (B := 4294967296) (by omega) y)
  rw [val_digs (by omega)] at h1
  exact digs_length_le (by omega) (Nat.lt_of_le_of_lt h h1)
theorem bl_add {x y : Int} {k m : Nat} (hx : bl x ≤ k) (hy : bl y ≤ k) (hm : k + 1 ≤ m) : bl (x + y) ≤ m := by
  have h1 := bl_add_le (m := x.natAbs) (n := y.natAbs) hx hy
  refine Nat.le_trans ?_ (Nat.le_trans h1 hm)
  unfold bl
  have := Int.natAbs_add_le x y
  exact bl_le_of_le this

set_option maxHeartbeats 4000000 in
set_option maxRecDepth 10000 in
theorem fracTimes_any (v1 v2 : Value) (a b : Rat) (w : World) (h1 : FV w v1 a) (h2 : FV w v2 b) (ha : FB a 16777216) (hb : FB b 16777216)  (ht : Tab w) :
    Calls Tryd.prog 57 #[v1, v2] w fun e w' => ∃ v, e = .returned v ∧ FV w' v ( a * b) ∧ Up w w' := by
  obtain ⟨s, A, n, c, t, F, m, k, rfl, hp1, hp2⟩ := h1
  obtain ⟨s2, A2, n2, c2, t2, F2, m2, k2, rfl, hp3, hp4⟩ := h2
  have HT1 := Lib.hid (fun W (hu : Up w W) => intTimes_any _ _ a.num b.num W (hp1.up hu) (hp3.up hu) (Nat.le_trans ha.top (by omega)) (Nat.le_trans hb.top (by omega)))
  have HT2 := Lib.hid (fun W (hu : Up w W) => intTimes_any _ _ a.den b.den W (hp2.up hu) (hp4.up hu) (Nat.le_trans ha.low (by omega)) (Nat.le_trans hb.low (by omega)))
  have HN := Lib.hid (fun W u1 u2 (hu : Up w W) (hv1 : IV W u1 (a.num * b.num)) (hv2 : IV W u2 (a.den * b.den)) => fracNew_any u1 u2 (a.num * b.num) (a.den * b.den) W hv1 hv2 (by have := a.den_nz; have := b.den_nz; simp only [ne_eq, Int.mul_eq_zero]; omega) (bl_mul ha.top hb.top (by omega)) (bl_mul ha.low hb.low (by omega)) (ht.up hu))
  have HEQ := Lib.hid (rat_mul a b)
  have q1 : n ≤ 9223372036854775807 := (let ⟨_, _, _, _, e, _, _, _, h, _⟩ := hp1.open_; by injection e with e; injection e with e; injection e with _ e; injection e with e; injection e with _ e2; omega)
  clear hp1 hp2 hp3 hp4 ha hb ht
  go_enter Tryd.func57, Tryd.ntmps57
  go_wp2_with fail
  obtain ⟨wB, hwB, hbx, hrs, hu0⟩ := start34 w s (.slice A n c) t (.slice F m k) s2 (.slice A2 n2 c2) t2 (.slice F2 m2 k2)
  rw [hwB]
  clear hwB
  have HBX := Lib.hid hbx
  have HRS := Lib.hid hrs
  have HU := Lib.hid hu0
  obtain ⟨a0, a1, a2, a3, b0, b1, b2, b3, la, lb⟩ := HBX.out
  clear hbx hrs hu0
  have hne1 : (w.heap.size = w.heap.size + 1 + 1) = False := by simp; omega
  have hne2 : (w.heap.size + 1 + 1 = w.heap.size) = False := by simp; omega
  go_region_held3 (fun w' => w'.cell? ⟨w.heap.size, 0, none⟩ = some (.int .i64 s) ∧ w'.cell? ⟨w.heap.size, 1, none⟩ = some (.slice A n c) ∧ w'.cell? ⟨w.heap.size, 2, none⟩ = some (.int .i64 t) ∧ w'.cell? ⟨w.heap.size, 3, none⟩ = some (.slice F m k) ∧ w'.cell? ⟨w.heap.size + 1, 0, none⟩ = some (.int .i64 s2) ∧ w'.cell? ⟨w.heap.size + 1, 1, none⟩ = some (.slice A2 n2 c2) ∧ w'.cell? ⟨w.heap.size + 1, 2, none⟩ = some (.int .i64 t2) ∧ w'.cell? ⟨w.heap.size + 1, 3, none⟩ = some (.slice F2 m2 k2)) (go_keep)
    ((first
      | (go_at_call_of 73 (Value.int IntKind.i64 s)
         refine (HT1.out _ (HU.out.trans (Up.drew wB))).mono ?_
         rintro e w5 ⟨v5, rfl, hv5, hu5⟩
         have HP5 := Lib.hid ((Up.drew wB).trans hu5)
         obtain ⟨a0, a1, a2, a3, b0, b1, b2, b3, la, lb⟩ := HBX.out.up HP5.out
         have HV5 := Lib.hid hv5
         clear hv5 hu5)
      | (go_at_call_of 73 (Value.int IntKind.i64 t)
         refine (HT2.out _ (HU.out.trans HP5.out)).mono ?_
         rintro e w6 ⟨v6, rfl, hv6, hu6⟩
         have HP6 := Lib.hid (HP5.out.trans hu6)
         obtain ⟨a0, a1, a2, a3, b0, b1, b2, b3, la, lb⟩ := HBX.out.up HP6.out
         have HV5b := Lib.hid (HV5.out.up hu6)
         have HV6 := Lib.hid hv6
         clear hv6 hu6)
      | (go_at_call 28
         refine (HN.out _ _ _ (HU.out.trans HP6.out) HV5b.out HV6.out).mono ?_
         rintro e w7 ⟨v7, rfl, hv7, hu7⟩
         have HP7 := Lib.hid (HP6.out.trans hu7)
         obtain ⟨a0, a1, a2, a3, b0, b1, b2, b3, la, lb⟩ := HBX.out.up HP7.out
         obtain ⟨r0, r1, r2, r3, f0, f1, f2, f3⟩ := (HRS.out.up HP7.out).facts
         have HRS7 := Lib.hid (HRS.out.up HP7.out)
         obtain ⟨s7, A7, n7, c7, t7, F7, m7, k7, rfl, hq1, hq2⟩ := hv7
         have HV7 := Lib.hid hq1
         have HV8 := Lib.hid hq2
         clear hq1 hq2 hu7)))
  have hq := HRS7.out.stored (.int .i64 s7) (.slice A7 n7 c7) (.int .i64 t7) (.slice F7 m7 k7)
  have HVA := Lib.hid (HV7.out.put4 HRS7.out (.int .i64 s7) (.slice A7 n7 c7) (.int .i64 t7) (.slice F7 m7 k7))
  have HVB := Lib.hid (HV8.out.put4 HRS7.out (.int .i64 s7) (.slice A7 n7 c7) (.int .i64 t7) (.slice F7 m7 k7))
  have HUF := Lib.hid ((HU.out.trans HP7.out).put4 (show w.heap.size ≤ w.heap.size + 1 + 1 by omega) (.int .i64 s7) (.slice A7 n7 c7) (.int .i64 t7) (.slice F7 m7 k7))
  unfold put4 at hq HVA HVB HUF
  obtain ⟨hq0, hq1, hq2, hq3⟩ := hq
  go_wp2
  refine bodyPost_ret (by simp [results, Tryd.results57, go_sem, hq0, hq1, hq2, hq3]; try rfl) rfl ?_
  refine ⟨_, rfl, ?_, HUF.out⟩
  rw [HEQ.out]
  exact ⟨_, _, _, _, _, _, _, _, rfl, HVA.out, HVB.out⟩

set_option maxHeartbeats 4000000 in
set_option maxRecDepth 10000 in
theorem fracOver_any (v1 v2 : Value) (a b : Rat) (w : World) (h1 : FV w v1 a) (h2 : FV w v2 b) (ha : FB a 16777216) (hb : FB b 16777216) (hz : b ≠ 0) (ht : Tab w) :
    Calls Tryd.prog 59 #[v1, v2] w fun e w' => ∃ v, e = .returned v ∧ FV w' v (a / b) ∧ Up w w' := by
  obtain ⟨s, A, n, c, t, F, m, k, rfl, hp1, hp2⟩ := h1
  obtain ⟨s2, A2, n2, c2, t2, F2, m2, k2, rfl, hp3, hp4⟩ := h2
  have HT1 := Lib.hid (fun W (hu : Up w W) => intTimes_any _ _ a.num b.den W (hp1.up hu) (hp4.up hu) (Nat.le_trans ha.top (by omega)) (Nat.le_trans hb.low (by omega)))
  have HT2 := Lib.hid (fun W (hu : Up w W) => intTimes_any _ _ a.den b.num W (hp2.up hu) (hp3.up hu) (Nat.le_trans ha.low (by omega)) (Nat.le_trans hb.top (by omega)))
  have HN := Lib.hid (fun W u1 u2 (hu : Up w W) (hv1 : IV W u1 (a.num * b.den)) (hv2 : IV W u2 (a.den * b.num)) => fracNew_any u1 u2 (a.num * b.den) (a.den * b.num) W hv1 hv2 (by have := a.den_nz; have := mt Rat.num_eq_zero.1 hz; simp only [ne_eq, Int.mul_eq_zero]; omega) (bl_mul ha.top hb.low (by omega)) (bl_mul ha.low hb.top (by omega)) (ht.up hu))
  have HEQ := Lib.hid (rat_div a b)
  have q1 : n ≤ 9223372036854775807 := (let ⟨_, _, _, _, e, _, _, _, h, _⟩ := hp1.open_; by injection e with e; injection e with e; injection e with _ e; injection e with e; injection e with _ e2; omega)
  clear hp1 hp2 hp3 hp4 ha hb ht
  go_enter Tryd.func59, Tryd.ntmps59
  go_wp2_with fail
  obtain ⟨wB, hwB, hbx, hrs, hu0⟩ := start34 w s (.slice A n c) t (.slice F m k) s2 (.slice A2 n2 c2) t2 (.slice F2 m2 k2)
  rw [hwB]
  clear hwB
  have HBX := Lib.hid hbx
  have HRS := Lib.hid hrs
  have HU := Lib.hid hu0
  obtain ⟨a0, a1, a2, a3, b0, b1, b2, b3, la, lb⟩ := HBX.out
  clear hbx hrs hu0
  have hne1 : (w.heap.size = w.heap.size + 1 + 1) = False := by simp; omega
  have hne2 : (w.heap.size + 1 + 1 = w.heap.size) = False := by simp; omega
  go_region_held3 (fun w' => w'.cell? ⟨w.heap.size, 0, none⟩ = some (.int .i64 s) ∧ w'.cell? ⟨w.heap.size, 1, none⟩ = some (.slice A n c) ∧ w'.cell? ⟨w.heap.size, 2, none⟩ = some (.int .i64 t) ∧ w'.cell? ⟨w.heap.size, 3, none⟩ = some (.slice F m k) ∧ w'.cell? ⟨w.heap.size + 1, 0, none⟩ = some (.int .i64 s2) ∧ w'.cell? ⟨w.heap.size + 1, 1, none⟩ = some (.slice A2 n2 c2) ∧ w'.cell? ⟨w.heap.size + 1, 2, none⟩ = some (.int .i64 t2) ∧ w'.cell? ⟨w.heap.size + 1, 3, none⟩ = some (.slice F2 m2 k2)) (go_keep)
    ((first
      | (go_at_call_of 73 (Value.int IntKind.i64 s)
         refine (HT1.out _ (HU.out.trans (Up.drew wB))).mono ?_
         rintro e w5 ⟨v5, rfl, hv5, hu5⟩
         have HP5 := Lib.hid ((Up.drew wB).trans hu5)
         obtain ⟨a0, a1, a2, a3, b0, b1, b2, b3, la, lb⟩ := HBX.out.up HP5.out
         have HV5 := Lib.hid hv5
         clear hv5 hu5)
      | (go_at_call_of 73 (Value.int IntKind.i64 t)
         refine (HT2.out _ (HU.out.trans HP5.out)).mono ?_
         rintro e w6 ⟨v6, rfl, hv6, hu6⟩
         have HP6 := Lib.hid (HP5.out.trans hu6)
         obtain ⟨a0, a1, a2, a3, b0, b1, b2, b3, la, lb⟩ := HBX.out.up HP6.out
         have HV5b := Lib.hid (HV5.out.up hu6)
         have HV6 := Lib.hid hv6
         clear hv6 hu6)
      | (go_at_call 28
         refine (HN.out _ _ _ (HU.out.trans HP6.out) HV5b.out HV6.out).mono ?_
         rintro e w7 ⟨v7, rfl, hv7, hu7⟩
         have HP7 := Lib.hid (HP6.out.trans hu7)
         obtain ⟨a0, a1, a2, a3, b0, b1, b2, b3, la, lb⟩ := HBX.out.up HP7.out
         obtain ⟨r0, r1, r2, r3, f0, f1, f2, f3⟩ := (HRS.out.up HP7.out).facts
         have HRS7 := Lib.hid (HRS.out.up HP7.out)
         obtain ⟨s7, A7, n7, c7, t7, F7, m7, k7, rfl, hq1, hq2⟩ := hv7
         have HV7 := Lib.hid hq1
         have HV8 := Lib.hid hq2
         clear hq1 hq2 hu7)))
  have hq := HRS7.out.stored (.int .i64 s7) (.slice A7 n7 c7) (.int .i64 t7) (.slice F7 m7 k7)
  have HVA := Lib.hid (HV7.out.put4 HRS7.out (.int .i64 s7) (.slice A7 n7 c7) (.int .i64 t7) (.slice F7 m7 k7))
  have HVB := Lib.hid (HV8.out.put4 HRS7.out (.int .i64 s7) (.slice A7 n7 c7) (.int .i64 t7) (.slice F7 m7 k7))
  have HUF := Lib.hid ((HU.out.trans HP7.out).put4 (show w.heap.size ≤ w.heap.size + 1 + 1 by omega) (.int .i64 s7) (.slice A7 n7 c7) (.int .i64 t7) (.slice F7 m7 k7))
  unfold put4 at hq HVA HVB HUF
  obtain ⟨hq0, hq1, hq2, hq3⟩ := hq
  go_wp2
  refine bodyPost_ret (by simp [results, Tryd.results59, go_sem, hq0, hq1, hq2, hq3]; try rfl) rfl ?_
  refine ⟨_, rfl, ?_, HUF.out⟩
  rw [HEQ.out]
  exact ⟨_, _, _, _, _, _, _, _, rfl, HVA.out, HVB.out⟩

end Go.Proofs.YtahmjnjammcifaaDoor

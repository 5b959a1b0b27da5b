import Derived.Test.YtahmjnjammcifaaDoorInt6
namespace Go.Proofs.YtahmjnjammcifaaDoor
open Go.RowKit Fm

set_option maxHeartbeats 1000000 in
set_option maxRecDepth 10000 in
theorem intQuo_any (v1 v2 : Value) (a b : Int) (w : World) (h1 : IV w v1 a) (h2 : IV w v2 b) (ha : bl a ≤ 67108864) (hz : b ≠ 0) :
    Calls Tryd.prog 64 #[v1, v2] w fun e w' => ∃ v3, e = .returned v3 ∧ IV w' v3 (a.tdiv b) ∧ Up w w' := by
  have HQ := Lib.hid (fun W (hu : Up w W) => intQuoRem_any v1 v2 a b W (h1.up hu) (h2.up hu) ha hz)
  obtain ⟨s, A, n, c, rfl, -, -, -, hn, -⟩ := h1.open_
  obtain ⟨s2, A2, n2, c2, rfl, -, -, -, hn2, -⟩ := h2.open_
  clear h1 h2 hz ha
  go_enter Tryd.func64, Tryd.ntmps64
  go_wp2_with fail
  obtain ⟨wB, hwB, hbx, hrs, hu0⟩ := start3 w s (.slice A n c) s2 (.slice A2 n2 c2)
  rw [hwB]
  clear hwB
  refine (HQ.out _ hu0).mono ?_
  rintro e w1 ⟨v3, v4, rfl, hv3, hv4, hu1⟩
  obtain ⟨s3, A3, n3, c3, rfl, -, -, -, -, -⟩ := hv3.open_
  obtain ⟨s4, A4, n4, c4, rfl, -, -, -, -, -⟩ := hv4.open_
  have HRS1 := Lib.hid (hrs.up hu1)
  have HU1 := Lib.hid (hu0.trans hu1)
  have HV3 := Lib.hid hv3
  obtain ⟨r0, r1, f0, f1⟩ := (HRS1.out.up ((Up.alloc w1 (.cells #[.int .i64 s3, .slice A3 n3 c3] 49)).trans (Up.alloc _ (.cells #[.int .i64 s4, .slice A4 n4 c4] 49)))).facts
  have HRS2 := Lib.hid (HRS1.out.up ((Up.alloc w1 (.cells #[.int .i64 s3, .slice A3 n3 c3] 49)).trans (Up.alloc _ (.cells #[.int .i64 s4, .slice A4 n4 c4] 49))))
  have HU2 := Lib.hid (HU1.out.trans ((Up.alloc w1 (.cells #[.int .i64 s3, .slice A3 n3 c3] 49)).trans (Up.alloc _ (.cells #[.int .i64 s4, .slice A4 n4 c4] 49))))
  have HV2 := Lib.hid (HV3.out.up ((Up.alloc w1 (.cells #[.int .i64 s3, .slice A3 n3 c3] 49)).trans (Up.alloc _ (.cells #[.int .i64 s4, .slice A4 n4 c4] 49))))
  have hlt := HRS1.out.lt
  clear hbx hrs hu0 hu1 hv3 hv4
  have hne1 : (w1.heap.size = w.heap.size + 1 + 1) = False := by simp; omega
  have hne2 : (w.heap.size + 1 + 1 = w1.heap.size) = False := by simp; omega
  have hne3 : (w1.heap.size + 1 = w.heap.size + 1 + 1) = False := by simp; omega
  have hne4 : (w.heap.size + 1 + 1 = w1.heap.size + 1) = False := by simp; omega
  obtain ⟨hq0, hq1⟩ := HRS2.out.stored (.int .i64 s3) (.slice A3 n3 c3)
  have HVF := Lib.hid (HV2.out.stored HRS2.out (.int .i64 s3) (.slice A3 n3 c3))
  have HUF := Lib.hid (HU2.out.stored (show w.heap.size ≤ w.heap.size + 1 + 1 by omega) (.int .i64 s3) (.slice A3 n3 c3))
  go_wp2
  refine bodyPost_ret (by simp [results, Tryd.results64, go_sem, hq0, hq1]; try rfl) rfl ?_
  exact ⟨_, rfl, HVF.out, HUF.out⟩

/-- The digits that lie in a value, and what they say. -/
theorem IVp.digits {w : World} {s : Int} {d : Value} {a : Int} (h : IVp w s d a) : ∃ m : Nat, Dv w d m ∧ ((m = 0 ∧ s = a) ∨ (4611686018427387904 ≤ m ∧ m = a.natAbs ∧ s = a.sign)) ∧ (m = 0 → a.natAbs < 4611686018427387904) := by
  rcases h with ⟨h1, h2, h3⟩ | ⟨h1, h2, h3⟩
  · exact ⟨0, by unfold Dv; rw [show digs 4294967296 0 = [] from (digs_eq_nil (by omega)).2 rfl]; exact h3, .inl ⟨rfl, h2⟩, fun _ => h1⟩
  · exact ⟨_, h3, .inr ⟨h1, rfl, h2⟩, fun h => by omega⟩
theorem eq_iff_digits {s s2 a b : Int} {m m2 : Nat} (h1 : (m = 0 ∧ s = a) ∨ (4611686018427387904 ≤ m ∧ m = a.natAbs ∧ s = a.sign)) (h2 : (m2 = 0 ∧ s2 = b) ∨ (4611686018427387904 ≤ m2 ∧ m2 = b.natAbs ∧ s2 = b.sign)) : a = b ↔ (s = s2 ∧ m = m2) ∨ (a = b ∧ (m = 0 ∧ m2 ≠ 0 ∨ m ≠ 0 ∧ m2 = 0)) := by
  rcases h1 with ⟨h1, h3⟩ | ⟨h1, h3, h5⟩ <;> rcases h2 with ⟨h2, h4⟩ | ⟨h2, h4, h6⟩
  · omega
  · omega
  · omega
  · constructor
    · rintro rfl; left; exact ⟨by rw [h5, h6], by omega⟩
    · rintro (⟨h7, h8⟩ | h7)
      · have : a.natAbs = b.natAbs := by omega
        rw [← Int.sign_mul_natAbs a, ← Int.sign_mul_natAbs b, ← h5, ← h6, h7, this]
      · exact h7.1
theorem eq_iff_digits' {s s2 a b : Int} {m m2 : Nat} (h1 : (m = 0 ∧ s = a) ∨ (4611686018427387904 ≤ m ∧ m = a.natAbs ∧ s = a.sign)) (h2 : (m2 = 0 ∧ s2 = b) ∨ (4611686018427387904 ≤ m2 ∧ m2 = b.natAbs ∧ s2 = b.sign)) (ha : m = 0 → a.natAbs < 4611686018427387904) (hb : m2 = 0 → b.natAbs < 4611686018427387904) : a = b ↔ s = s2 ∧ ((m : Int) - m2).sign = 0 := by
  rw [eq_iff_digits h1 h2, Int.sign_eq_zero_iff_zero]
  constructor
  · rintro (⟨h, h'⟩ | ⟨h, h' | h'⟩)
    · exact ⟨h, by omega⟩
    · have := ha h'.1; rw [h] at this; rcases h2 with h2 | h2 <;> omega
    · have := hb h'.2; rw [← h] at this; rcases h1 with h1 | h1 <;> omega
  · rintro ⟨h, h'⟩
    exact .inl ⟨h, by omega⟩

set_option maxHeartbeats 1000000 in
set_option maxRecDepth 10000 in
theorem intEqual_any (v1 v2 : Value) (a b : Int) (w : World) (h1 : IV w v1 a) (h2 : IV w v2 b) :
    Calls Tryd.prog 71 #[v1, v2] w fun e w' => e = .returned (.bool (decide (a = b))) ∧ Up w w' := by
  obtain ⟨s, A, n, c, rfl, hp1, -, -, hn, -⟩ := h1.open_
  obtain ⟨s2, A2, n2, c2, rfl, hp2, -, -, hn2, -⟩ := h2.open_
  obtain ⟨m, hm, hm1, hm2⟩ := hp1.digits
  obtain ⟨k, hk, hk1, hk2⟩ := hp2.digits
  have hiff := eq_iff_digits' hm1 hk1 hm2 hk2
  have HC := Lib.hid (fun W (hu : Up w W) => cmp_any _ _ m k W (Sl.up hm hu) (Sl.up hk hu))
  clear hm hk hm1 hm2 hk1 hk2 h1 h2 hp1 hp2
  rw [show decide (a = b) = decide (s = s2 ∧ ((m : Int) - k).sign = 0) by simp [hiff]]
  generalize ((m : Int) - k).sign = sg at *
  clear hiff
  by_cases hs : s = s2
  · subst hs
    go_enter Tryd.func71, Tryd.ntmps71
    go_wp2_with fail
    refine (HC.out _ ((Up.alloc _ _).trans (Up.alloc _ _))).mono ?_
    rintro e w1 ⟨rfl, nq, rfl⟩
    go_wp2
    go_ret
    exact ⟨by simp; by_cases h : sg = 0 <;> simp [h], ((Up.alloc _ _).trans (Up.alloc _ _)).trans (Up.drewN _ _)⟩
  · have hsf : (s == s2) = false := by simp; exact hs
    go_enter Tryd.func71, Tryd.ntmps71
    go_wp2
    go_ret
    exact ⟨by simp [hs], (Up.alloc _ _).trans (Up.alloc _ _)⟩
end Go.Proofs.YtahmjnjammcifaaDoor

import Derived.Test.YtahmjnjammcifaaDoorFrac6
namespace Go.Proofs.YtahmjnjammcifaaDoor
open Go.RowKit Fm

set_option maxHeartbeats 2000000 in
set_option maxRecDepth 10000 in
theorem limited_any (v : Value) (q : Rat) (w : World) (h : FV w v q) :
    Calls Tryd.prog 27 #[v] w fun e w' => e = .returned (.tuple #[.agg #[.int .i64 (if fits q then q.num else 0), .int .i64 (if fits q then (q.den : Int) else 0)], .int .i64 (if fits q then 0 else 3)]) ∧ Up w w' := by
  have HN := Lib.hid (fun W (hu : Up w W) => fracNum_any v q W (h.up hu))
  obtain ⟨s, A, n, c, t, F, m, k, rfl, hp1, hp2⟩ := h
  clear hp1 hp2
  generalize fits q = b at *
  generalize q.num = x at *
  generalize (q.den : Int) = y at *
  cases b
  all_goals
    simp only [if_true, if_false, Bool.false_eq_true] at HN ⊢
    go_enter Tryd.func27, Tryd.ntmps27
    go_wp2_with fail
    obtain ⟨wB, hwB⟩ : ∃ wB, wB = (w.alloc (.cells #[.int .i64 s, .slice A n c, .int .i64 t, .slice F m k] 51)).alloc (.cells #[.int .i64 0, .int .i64 0] 23) := ⟨_, rfl⟩
    have HR := Lib.hid (show CellN wB (w.heap.size + 1) 0 0 by rw [hwB]; have := CellN.new (w.alloc (.cells #[.int .i64 s, .slice A n c, .int .i64 t, .slice F m k] 51)) 0 0; simpa using this)
    have HU := Lib.hid (show Up w wB by rw [hwB]; exact (Up.alloc _ _).trans (Up.alloc _ _))
    rw [← hwB]
    clear hwB
    refine Calls.mono (HN.out _ (by (repeat (first | exact Below.refl _ _ | exact Go.RowKit.Hid.out (by assumption) | refine Up.trans ?_ (Up.drew _) | refine Up.trans ?_ (Up.drewN _ _) | refine Up.trans ?_ (Up.alloc _ _) | refine Up.trans ?_ (Go.RowKit.Hid.out (by assumption)))))) ?_
    rintro e w1 ⟨rfl, hu1⟩
    have HU1 := Lib.hid hu1
    clear hu1
    have HR1 := Lib.hid (HR.out.up (w' := w1) (by (repeat (first | exact Below.refl _ _ | exact Go.RowKit.Hid.out (by assumption) | refine Up.trans ?_ (Up.drew _) | refine Up.trans ?_ (Up.drewN _ _) | refine Up.trans ?_ (Up.alloc _ _) | refine Up.trans ?_ (Go.RowKit.Hid.out (by assumption))))))
  · have HR2 := Lib.hid (HR1.out.up (Up.alloc w1 (.cells #[.int .i64 0, .int .i64 0] 23)))
    obtain ⟨r0, r1, g0, g1, lr⟩ := HR2.out.facts
    have HF := Lib.hid ((HR2.out.set 0 0).facts)
    have HUF := Lib.hid ((show Up w (w1.alloc (.cells #[.int .i64 0, .int .i64 0] 23)) by (repeat (first | exact Below.refl _ _ | exact Go.RowKit.Hid.out (by assumption) | refine Up.trans ?_ (Up.drew _) | refine Up.trans ?_ (Up.drewN _ _) | refine Up.trans ?_ (Up.alloc _ _) | refine Up.trans ?_ (Go.RowKit.Hid.out (by assumption))))).stored (show w.heap.size ≤ w.heap.size + 1 by omega) (.int .i64 0) (.int .i64 0))
    go_wp2
    obtain ⟨z0, z1, -, -, -⟩ := HF.out
    refine bodyPost_ret (by simp [results, Tryd.results27, go_sem, z0, z1]; try rfl) rfl ?_
    exact ⟨rfl, HUF.out⟩
  · have HR2 := Lib.hid (HR1.out.up (Up.alloc w1 (.cells #[.int .i64 x, .int .i64 y] 23)))
    obtain ⟨r0, r1, g0, g1, lr⟩ := HR2.out.facts
    have HF := Lib.hid ((HR2.out.set x y).facts)
    have HUF := Lib.hid ((show Up w (w1.alloc (.cells #[.int .i64 x, .int .i64 y] 23)) by (repeat (first | exact Below.refl _ _ | exact Go.RowKit.Hid.out (by assumption) | refine Up.trans ?_ (Up.drew _) | refine Up.trans ?_ (Up.drewN _ _) | refine Up.trans ?_ (Up.alloc _ _) | refine Up.trans ?_ (Go.RowKit.Hid.out (by assumption))))).stored (show w.heap.size ≤ w.heap.size + 1 by omega) (.int .i64 x) (.int .i64 y))
    go_wp2
    obtain ⟨z0, z1, -, -, -⟩ := HF.out
    refine bodyPost_ret (by simp [results, Tryd.results27, go_sem, z0, z1]; try rfl) rfl ?_
    exact ⟨rfl, HUF.out⟩

/-- Whether a pair of integers is a number: reduced and within the limits. -/
def okNum (x y : Int) : Bool := decide (1 ≤ y ∧ y ≤ 1152921504606846976 ∧ -1152921504606846976 ≤ x ∧ x ≤ 1152921504606846976 ∧ Int.gcd x y = 1)

theorem bl_small {z : Int} (h : z.natAbs < 18446744073709551616) : bl z ≤ 2 := digs_length_le (B := 4294967296) (k := 2) (by omega) (by omega)

set_option maxHeartbeats 2000000 in
set_option maxRecDepth 10000 in
theorem valid_any (x y : Int) (w : World) (x1 : -9223372036854775808 ≤ x) (x2 : x ≤ 9223372036854775807) (y1 : -9223372036854775808 ≤ y) (y2 : y ≤ 9223372036854775807) (ht : Tab w) :
    Calls Tryd.prog 33 #[.agg #[.int .i64 x, .int .i64 y]] w fun e w' => e = .returned (.bool (okNum x y)) ∧ Up w w' := by
  by_cases h1 : 1 ≤ y
  · by_cases h2 : y ≤ 1152921504606846976
    · by_cases h3 : -1152921504606846976 ≤ x
      · by_cases h4 : x ≤ 1152921504606846976
        · have hv : okNum x y = decide ((Int.gcd x y : Nat) = (1 : Int)) := by
            unfold okNum; simp only [h1, h2, h3, h4, true_and]; congr 1; simp; omega
          rw [hv]
          have HO1 := Lib.hid (fun W => of_any x W x1 x2)
          have HO2 := Lib.hid (fun W => of_any y W y1 y2)
          have HO3 := Lib.hid (fun W => of_any 1 W (by omega) (by omega))
          have HG := Lib.hid (fun W u1 u2 (hu : Up w W) (hv1 : IV W u1 x) (hv2 : IV W u2 y) => intGcd_any u1 u2 x y W hv1 hv2 (Nat.le_trans (bl_small (by omega)) (by omega)) (Nat.le_trans (bl_small (by omega)) (by omega)) (ht.up hu))
          have HE := Lib.hid (fun W u1 u2 (hv1 : IV W u1 (Int.gcd x y : Nat)) (hv2 : IV W u2 1) => intEqual_any u1 u2 _ _ W hv1 hv2)
          clear hv ht
          go_enter Tryd.func33, Tryd.ntmps33
          go_wp2_with fail
          obtain ⟨wB, hwB⟩ : ∃ wB, wB = w.alloc (.cells #[.int .i64 x, .int .i64 y] 23) := ⟨_, rfl⟩
          have HN := Lib.hid (show CellN wB w.heap.size x y by rw [hwB]; exact CellN.new w x y)
          have HU := Lib.hid (show Up w wB by rw [hwB]; exact Up.alloc _ _)
          rw [← hwB]
          clear hwB
          obtain ⟨a0, a1, -, -, la⟩ := HN.out.facts
          go_region_held3 (fun w' => w'.cell? ⟨w.heap.size, 0, none⟩ = some (.int .i64 x) ∧ w'.cell? ⟨w.heap.size, 1, none⟩ = some (.int .i64 y)) (go_keep)
            ((first
              | (go_at_call_of 29 (Value.int IntKind.i64 x)
                 refine Calls.mono (HO1.out _) ?_
                 rintro e w5 ⟨v5, rfl, hv5, hu5⟩
                 have HU5 := Lib.hid hu5
                 obtain ⟨a0, a1, -, -, la⟩ := (HN.out.up (w' := w5) (by (repeat (first | exact Below.refl _ _ | exact Go.RowKit.Hid.out (by assumption) | refine Up.trans ?_ (Up.drew _) | refine Up.trans ?_ (Up.drewN _ _) | refine Up.trans ?_ (Up.alloc _ _) | refine Up.trans ?_ (Go.RowKit.Hid.out (by assumption)))))).facts
                 have HV5 := Lib.hid hv5
                 clear hv5 hu5)
              | (go_at_call_of 29 (Value.int IntKind.i64 y)
                 refine Calls.mono (HO2.out _) ?_
                 rintro e w6 ⟨v6, rfl, hv6, hu6⟩
                 have HU6 := Lib.hid hu6
                 obtain ⟨a0, a1, -, -, la⟩ := (HN.out.up (w' := w6) (by (repeat (first | exact Below.refl _ _ | exact Go.RowKit.Hid.out (by assumption) | refine Up.trans ?_ (Up.drew _) | refine Up.trans ?_ (Up.drewN _ _) | refine Up.trans ?_ (Up.alloc _ _) | refine Up.trans ?_ (Go.RowKit.Hid.out (by assumption)))))).facts
                 have HV6 := Lib.hid hv6
                 clear hv6 hu6)
              | (go_at_call 61
                 refine Calls.mono (HG.out _ _ _ (by (repeat (first | exact Below.refl _ _ | exact Go.RowKit.Hid.out (by assumption) | refine Up.trans ?_ (Up.drew _) | refine Up.trans ?_ (Up.drewN _ _) | refine Up.trans ?_ (Up.alloc _ _) | refine Up.trans ?_ (Go.RowKit.Hid.out (by assumption))))) (by (refine IV.up (Go.RowKit.Hid.out (by assumption)) ?_; (repeat (first | exact Below.refl _ _ | exact Go.RowKit.Hid.out (by assumption) | refine Up.trans ?_ (Up.drew _) | refine Up.trans ?_ (Up.drewN _ _) | refine Up.trans ?_ (Up.alloc _ _) | refine Up.trans ?_ (Go.RowKit.Hid.out (by assumption)))))) (by (refine IV.up (Go.RowKit.Hid.out (by assumption)) ?_; (repeat (first | exact Below.refl _ _ | exact Go.RowKit.Hid.out (by assumption) | refine Up.trans ?_ (Up.drew _) | refine Up.trans ?_ (Up.drewN _ _) | refine Up.trans ?_ (Up.alloc _ _) | refine Up.trans ?_ (Go.RowKit.Hid.out (by assumption))))))) ?_
                 rintro e w7 ⟨v7, rfl, hv7, hu7⟩
                 have HU7 := Lib.hid hu7
                 obtain ⟨a0, a1, -, -, la⟩ := (HN.out.up (w' := w7) (by (repeat (first | exact Below.refl _ _ | exact Go.RowKit.Hid.out (by assumption) | refine Up.trans ?_ (Up.drew _) | refine Up.trans ?_ (Up.drewN _ _) | refine Up.trans ?_ (Up.alloc _ _) | refine Up.trans ?_ (Go.RowKit.Hid.out (by assumption)))))).facts
                 have HV7 := Lib.hid hv7
                 clear hv7 hu7)
              | (go_at_call_of 29 (Value.int IntKind.i64 1)
                 refine Calls.mono (HO3.out _) ?_
                 rintro e w8 ⟨v8, rfl, hv8, hu8⟩
                 have HU8 := Lib.hid hu8
                 obtain ⟨a0, a1, -, -, la⟩ := (HN.out.up (w' := w8) (by (repeat (first | exact Below.refl _ _ | exact Go.RowKit.Hid.out (by assumption) | refine Up.trans ?_ (Up.drew _) | refine Up.trans ?_ (Up.drewN _ _) | refine Up.trans ?_ (Up.alloc _ _) | refine Up.trans ?_ (Go.RowKit.Hid.out (by assumption)))))).facts
                 have HV8 := Lib.hid hv8
                 clear hv8 hu8)
              | (go_at_call 71
                 refine Calls.mono (HE.out _ _ _ (by (refine IV.up (Go.RowKit.Hid.out (by assumption)) ?_; (repeat (first | exact Below.refl _ _ | exact Go.RowKit.Hid.out (by assumption) | refine Up.trans ?_ (Up.drew _) | refine Up.trans ?_ (Up.drewN _ _) | refine Up.trans ?_ (Up.alloc _ _) | refine Up.trans ?_ (Go.RowKit.Hid.out (by assumption)))))) (by (refine IV.up (Go.RowKit.Hid.out (by assumption)) ?_; (repeat (first | exact Below.refl _ _ | exact Go.RowKit.Hid.out (by assumption) | refine Up.trans ?_ (Up.drew _) | refine Up.trans ?_ (Up.drewN _ _) | refine Up.trans ?_ (Up.alloc _ _) | refine Up.trans ?_ (Go.RowKit.Hid.out (by assumption))))))) ?_
                 rintro e w9 ⟨rfl, hu9⟩
                 have HU9 := Lib.hid hu9
                 obtain ⟨a0, a1, -, -, la⟩ := (HN.out.up (w' := w9) (by (repeat (first | exact Below.refl _ _ | exact Go.RowKit.Hid.out (by assumption) | refine Up.trans ?_ (Up.drew _) | refine Up.trans ?_ (Up.drewN _ _) | refine Up.trans ?_ (Up.alloc _ _) | refine Up.trans ?_ (Go.RowKit.Hid.out (by assumption)))))).facts
                 clear hu9)))
          go_wp2
          refine bodyPost_ret (by simp [results, Tryd.results33, go_sem]; try rfl) rfl ?_
          exact ⟨rfl, by (repeat (first | exact Below.refl _ _ | exact Go.RowKit.Hid.out (by assumption) | refine Up.trans ?_ (Up.drew _) | refine Up.trans ?_ (Up.drewN _ _) | refine Up.trans ?_ (Up.alloc _ _) | refine Up.trans ?_ (Go.RowKit.Hid.out (by assumption))))⟩
        · have hv : okNum x y = false := by unfold okNum; simp only [decide_eq_false_iff_not]; intro hh; exact h4 hh.2.2.2.1
          rw [hv]
          have hb := decide_eq_false h4; have hb' := Bool.eq_false_iff.1 hb; clear hb'; clear hv ht
          go_enter Tryd.func33, Tryd.ntmps33
          go_wp2_with fail
          obtain ⟨wB, hwB⟩ : ∃ wB, wB = w.alloc (.cells #[.int .i64 x, .int .i64 y] 23) := ⟨_, rfl⟩
          have HN := Lib.hid (show CellN wB w.heap.size x y by rw [hwB]; exact CellN.new w x y)
          have HU := Lib.hid (show Up w wB by rw [hwB]; exact Up.alloc _ _)
          rw [← hwB]
          clear hwB
          obtain ⟨a0, a1, -, -, la⟩ := HN.out.facts
          go_quiet (fail)
          go_wp2
          refine bodyPost_ret (by simp [results, Tryd.results33, go_sem]; try rfl) rfl ?_
          exact ⟨rfl, by (repeat (first | exact Below.refl _ _ | exact Go.RowKit.Hid.out (by assumption) | refine Up.trans ?_ (Up.drew _) | refine Up.trans ?_ (Up.drewN _ _) | refine Up.trans ?_ (Up.alloc _ _) | refine Up.trans ?_ (Go.RowKit.Hid.out (by assumption))))⟩
      · have hv : okNum x y = false := by unfold okNum; simp only [decide_eq_false_iff_not]; intro hh; exact h3 hh.2.2.1
        rw [hv]
        have hb := decide_eq_false h3; have hb' := Bool.eq_false_iff.1 hb; clear hb'; clear hv ht
        go_enter Tryd.func33, Tryd.ntmps33
        go_wp2_with fail
        obtain ⟨wB, hwB⟩ : ∃ wB, wB = w.alloc (.cells #[.int .i64 x, .int .i64 y] 23) := ⟨_, rfl⟩
        have HN := Lib.hid (show CellN wB w.heap.size x y by rw [hwB]; exact CellN.new w x y)
        have HU := Lib.hid (show Up w wB by rw [hwB]; exact Up.alloc _ _)
        rw [← hwB]
        clear hwB
        obtain ⟨a0, a1, -, -, la⟩ := HN.out.facts
        go_quiet (fail)
        go_wp2
        refine bodyPost_ret (by simp [results, Tryd.results33, go_sem]; try rfl) rfl ?_
        exact ⟨rfl, by (repeat (first | exact Below.refl _ _ | exact Go.RowKit.Hid.out (by assumption) | refine Up.trans ?_ (Up.drew _) | refine Up.trans ?_ (Up.drewN _ _) | refine Up.trans ?_ (Up.alloc _ _) | refine Up.trans ?_ (Go.RowKit.Hid.out (by assumption))))⟩
    · have hv : okNum x y = false := by unfold okNum; simp only [decide_eq_false_iff_not]; intro hh; exact h2 hh.2.1
      rw [hv]
      have hb := decide_eq_false h2; have hb' := Bool.eq_false_iff.1 hb; clear hb'; clear hv ht
      go_enter Tryd.func33, Tryd.ntmps33
      go_wp2_with fail
      obtain ⟨wB, hwB⟩ : ∃ wB, wB = w.alloc (.cells #[.int .i64 x, .int .i64 y] 23) := ⟨_, rfl⟩
      have HN := Lib.hid (show CellN wB w.heap.size x y by rw [hwB]; exact CellN.new w x y)
      have HU := Lib.hid (show Up w wB by rw [hwB]; exact Up.alloc _ _)
      rw [← hwB]
      clear hwB
      obtain ⟨a0, a1, -, -, la⟩ := HN.out.facts
      go_quiet (fail)
      go_wp2
      refine bodyPost_ret (by simp [results, Tryd.results33, go_sem]; try rfl) rfl ?_
      exact ⟨rfl, by (repeat (first | exact Below.refl _ _ | exact Go.RowKit.Hid.out (by assumption) | refine Up.trans ?_ (Up.drew _) | refine Up.trans ?_ (Up.drewN _ _) | refine Up.trans ?_ (Up.alloc _ _) | refine Up.trans ?_ (Go.RowKit.Hid.out (by assumption))))⟩
  · have hv : okNum x y = false := by unfold okNum; simp only [decide_eq_false_iff_not]; intro hh; exact h1 hh.1
    rw [hv]
    have hb := decide_eq_false h1; have hb' := Bool.eq_false_iff.1 hb; clear hb'; clear hv ht
    go_enter Tryd.func33, Tryd.ntmps33
    go_wp2_with fail
    obtain ⟨wB, hwB⟩ : ∃ wB, wB = w.alloc (.cells #[.int .i64 x, .int .i64 y] 23) := ⟨_, rfl⟩
    have HN := Lib.hid (show CellN wB w.heap.size x y by rw [hwB]; exact CellN.new w x y)
    have HU := Lib.hid (show Up w wB by rw [hwB]; exact Up.alloc _ _)
    rw [← hwB]
    clear hwB
    obtain ⟨a0, a1, -, -, la⟩ := HN.out.facts
    go_quiet (fail)
    go_wp2
    refine bodyPost_ret (by simp [results, Tryd.results33, go_sem]; try rfl) rfl ?_
    exact ⟨rfl, by (repeat (first | exact Below.refl _ _ | exact Go.RowKit.Hid.out (by assumption) | refine Up.trans ?_ (Up.drew _) | refine Up.trans ?_ (Up.drewN _ _) | refine Up.trans ?_ (Up.alloc _ _) | refine Up.trans ?_ (Go.RowKit.Hid.out (by assumption))))⟩
end Go.Proofs.YtahmjnjammcifaaDoor

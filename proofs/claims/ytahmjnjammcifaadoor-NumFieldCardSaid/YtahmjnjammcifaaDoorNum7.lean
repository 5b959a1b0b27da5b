import Derived.Test.YtahmjnjammcifaaDoorNum6
namespace Go.Proofs.YtahmjnjammcifaaDoor
open Go.RowKit Fm

theorem add_awake1 (w : World) (ht : Tab w) : Calls Tryd.prog 23 #[.agg #[.int .i64 1, .int .i64 3], .agg #[.int .i64 1, .int .i64 6]] w fun e w' => e = .returned (.tuple #[.agg #[.int .i64 1, .int .i64 2], .int .i64 0]) ∧ Up w w' := by
  have h := numAdd_any 1 3 1 6 w (by decide) (by decide) (by decide) (by decide) (by decide) (by decide) (by decide) (by decide) ht
  have hok : (okNum 1 3 && okNum 1 6) = true := by decide
  have hq : ratOf 1 3 + ratOf 1 6 = Rat.divInt 9 18 := by
    unfold ratOf; rw [Rat.divInt_add_divInt _ _ (by decide) (by decide)]; rfl
  have hn : (Rat.divInt 9 18).num = 1 := by rw [Rat.num_divInt]; decide
  have hd : (Rat.divInt 9 18).den = 2 := by rw [Rat.den_divInt]; decide
  have hf : fits (Rat.divInt 9 18) = true := by unfold fits; rw [hn, hd]; decide
  rw [hok, hq] at h
  simp only [numX, numY, numE, hf, hn, hd, Bool.and_true, if_true] at h
  exact h

theorem add_awake2 (w : World) (ht : Tab w) : Calls Tryd.prog 23 #[.agg #[.int .i64 1152921504606846976, .int .i64 1], .agg #[.int .i64 1, .int .i64 1]] w fun e w' => e = .returned (.tuple #[.agg #[.int .i64 0, .int .i64 0], .int .i64 3]) ∧ Up w w' := by
  have h := numAdd_any 1152921504606846976 1 1 1 w (by decide) (by decide) (by decide) (by decide) (by decide) (by decide) (by decide) (by decide) ht
  have hok : (okNum 1152921504606846976 1 && okNum 1 1) = true := by decide
  have hq : ratOf 1152921504606846976 1 + ratOf 1 1 = Rat.divInt 1152921504606846977 1 := by
    unfold ratOf; rw [Rat.divInt_add_divInt _ _ (by decide) (by decide)]; rfl
  have hn : (Rat.divInt 1152921504606846977 1).num = 1152921504606846977 := by rw [Rat.num_divInt]; decide
  have hf : fits (Rat.divInt 1152921504606846977 1) = false := by unfold fits; rw [hn]; simp [within]
  rw [hok, hq] at h
  simp only [numX, numY, numE, hf, Bool.and_false, if_true, if_false, Bool.false_eq_true] at h
  exact h

set_option maxRecDepth 10000 in
theorem awake_any (w : World) (ht : Tab w) : Calls Tryd.prog 14 #[] w fun e w' => e = .returned (.bool true) ∧ Up w w' := by
  have HA := Lib.hid (fun W (hu : Up w W) => add_awake1 W (ht.up hu))
  have HB := Lib.hid (fun W (hu : Up w W) => between_awake W (ht.up hu))
  have HC := Lib.hid (fun W (hu : Up w W) => add_awake2 W (ht.up hu))
  clear ht
  go_enter Tryd.func14, Tryd.ntmps14
  go_wp2_with fail
  refine Calls.mono (HA.out _ (by (repeat (first | exact Below.refl _ _ | exact Go.RowKit.Hid.out (by assumption) | refine Up.trans ?_ (Up.drew _) | refine Up.trans ?_ (Up.drewN _ _) | refine Up.trans ?_ (Up.alloc _ _) | refine Up.trans ?_ (Go.RowKit.Hid.out (by assumption)))))) ?_
  rintro e w1 ⟨rfl, hu1⟩
  have HU1 := Lib.hid hu1
  clear hu1
  go_wp2_with fail
  refine Calls.mono (HB.out _ (by (repeat (first | exact Below.refl _ _ | exact Go.RowKit.Hid.out (by assumption) | refine Up.trans ?_ (Up.drew _) | refine Up.trans ?_ (Up.drewN _ _) | refine Up.trans ?_ (Up.alloc _ _) | refine Up.trans ?_ (Go.RowKit.Hid.out (by assumption)))))) ?_
  rintro e w2 ⟨rfl, hu2⟩
  have HU2 := Lib.hid hu2
  have HN1 := Lib.hid ((CellN.new w1 1 2).up hu2)
  clear hu2
  go_wp2_with fail
  refine Calls.mono (HC.out _ (by (repeat (first | exact Below.refl _ _ | exact Go.RowKit.Hid.out (by assumption) | refine Up.trans ?_ (Up.drew _) | refine Up.trans ?_ (Up.drewN _ _) | refine Up.trans ?_ (Up.alloc _ _) | refine Up.trans ?_ (Go.RowKit.Hid.out (by assumption)))))) ?_
  rintro e w3 ⟨rfl, hu3⟩
  have HU3 := Lib.hid hu3
  have HN1b := Lib.hid (HN1.out.up ((Up.alloc w2 (.cells #[.int .i64 1, .int .i64 3] 23)).trans hu3))
  have HN2 := Lib.hid ((CellN.new w2 1 3).up hu3)
  clear hu3
  obtain ⟨a0, a1, -, -, la⟩ := (HN1b.out.up (Up.alloc w3 (.cells #[.int .i64 0, .int .i64 0] 23))).facts
  obtain ⟨b0, b1, -, -, lb⟩ := (HN2.out.up (Up.alloc w3 (.cells #[.int .i64 0, .int .i64 0] 23))).facts
  go_wp2
  refine bodyPost_ret (by simp [results, Tryd.results14, go_sem]; try rfl) rfl ?_
  exact ⟨rfl, by (repeat (first | exact Below.refl _ _ | exact Go.RowKit.Hid.out (by assumption) | refine Up.trans ?_ (Up.drew _) | refine Up.trans ?_ (Up.drewN _ _) | refine Up.trans ?_ (Up.alloc _ _) | refine Up.trans ?_ (Go.RowKit.Hid.out (by assumption))))⟩
end Go.Proofs.YtahmjnjammcifaaDoor

/- Walks of a law. -/
import Derived.Test.YtgcmogldiahdpaaGreatDoorQGCombL1
namespace Go.Proofs.YtgcmogldiahdpaaGreatDoor
open Go.RowKit Fm
set_option maxHeartbeats 1000000 in
set_option maxRecDepth 10000 in
theorem linCombine_bad1 (A B : Option Addr) (c d m k : Nat) (n : Int) (w : World)
    (HV : Hid (∀ W, Up w W → Calls Tryz.prog 86 #[.int .i64 n, .slice A m c] W fun e w' => e = .returned (.bool false) ∧ Up W w')) :
    Calls Tryz.prog 27 #[.int .i64 n, .slice A m c, .slice B k d] w fun e w' => e = .returned (.tuple #[.agg #[.slice none 0 0, .int .i64 0], .int .i64 0, .int .i64 1]) ∧ Up w w' := by
  go_enter Tryz.func27, Tryz.ntmps27
  go_wp2_with fail
  refine Calls.mono (HV.out _ (by (repeat (first | exact Below.refl _ _ | exact Go.RowKit.Hid.out (by assumption) | refine Up.trans ?_ (Up.drew _) | refine Up.trans ?_ (Up.drewN _ _) | refine Up.trans ?_ (Up.alloc _ _) | refine Up.trans ?_ (Go.RowKit.Hid.out (by assumption)))))) ?_
  rintro e w1 ⟨rfl, hu⟩
  have HU1 := Lib.hid hu
  clear hu
  have HR := Lib.hid ((CellF.new w none 0 0 0).up HU1.out)
  have HP := Lib.hid ((HR.out.set none 0 0 0).facts)
  have HUZ := Lib.hid (Up.stored ((Up.alloc w (.cells #[.slice none 0 0, .int .i64 0] 33)).trans HU1.out) (Nat.le_refl _) (.slice none 0 0) (.int .i64 0))
  obtain ⟨r0, r1, f0, f1, lr⟩ := HR.out.facts
  go_wp2
  obtain ⟨z0, z1, -, -, -⟩ := HP.out
  refine bodyPost_ret (by simp [results, Tryz.results27, go_sem, z0, z1]; try rfl) rfl ?_
  exact ⟨rfl, HUZ.out⟩
set_option maxHeartbeats 1000000 in
set_option maxRecDepth 10000 in
theorem linCombine_bad2 (A B : Option Addr) (c d m k : Nat) (n : Int) (w : World)
    (HV : Hid (∀ W, Up w W → Calls Tryz.prog 86 #[.int .i64 n, .slice A m c] W fun e w' => e = .returned (.bool true) ∧ Up W w'))
    (HN : Hid (∀ W, Up w W → Calls Tryz.prog 81 #[.slice B k d] W fun e w' => e = .returned (.bool false) ∧ Up W w')) :
    Calls Tryz.prog 27 #[.int .i64 n, .slice A m c, .slice B k d] w fun e w' => e = .returned (.tuple #[.agg #[.slice none 0 0, .int .i64 0], .int .i64 0, .int .i64 1]) ∧ Up w w' := by
  go_enter Tryz.func27, Tryz.ntmps27
  go_wp2_with fail
  refine Calls.mono (HV.out _ (by (repeat (first | exact Below.refl _ _ | exact Go.RowKit.Hid.out (by assumption) | refine Up.trans ?_ (Up.drew _) | refine Up.trans ?_ (Up.drewN _ _) | refine Up.trans ?_ (Up.alloc _ _) | refine Up.trans ?_ (Go.RowKit.Hid.out (by assumption)))))) ?_
  rintro e w1 ⟨rfl, hu⟩
  have HU1 := Lib.hid hu
  clear hu
  go_wp2_with fail
  refine Calls.mono (HN.out _ (by (repeat (first | exact Below.refl _ _ | exact Go.RowKit.Hid.out (by assumption) | refine Up.trans ?_ (Up.drew _) | refine Up.trans ?_ (Up.drewN _ _) | refine Up.trans ?_ (Up.alloc _ _) | refine Up.trans ?_ (Go.RowKit.Hid.out (by assumption)))))) ?_
  rintro e w2 ⟨rfl, hu⟩
  have HU2 := Lib.hid hu
  clear hu
  have HR := Lib.hid ((CellF.new w none 0 0 0).up (HU1.out.trans HU2.out))
  have HP := Lib.hid ((HR.out.set none 0 0 0).facts)
  have HUZ := Lib.hid (Up.stored ((Up.alloc w (.cells #[.slice none 0 0, .int .i64 0] 33)).trans (HU1.out.trans HU2.out)) (Nat.le_refl _) (.slice none 0 0) (.int .i64 0))
  obtain ⟨r0, r1, f0, f1, lr⟩ := HR.out.facts
  go_wp2
  obtain ⟨z0, z1, -, -, -⟩ := HP.out
  refine bodyPost_ret (by simp [results, Tryz.results27, go_sem, z0, z1]; try rfl) rfl ?_
  exact ⟨rfl, HUZ.out⟩
set_option maxHeartbeats 1000000 in
set_option maxRecDepth 10000 in
theorem linCombine_bad3 (A B : Option Addr) (c d m k : Nat) (n : Int) (w : World) (hmk : m ≠ k)
    (HV : Hid (∀ W, Up w W → Calls Tryz.prog 86 #[.int .i64 n, .slice A m c] W fun e w' => e = .returned (.bool true) ∧ Up W w'))
    (HN : Hid (∀ W, Up w W → Calls Tryz.prog 81 #[.slice B k d] W fun e w' => e = .returned (.bool true) ∧ Up W w')) :
    Calls Tryz.prog 27 #[.int .i64 n, .slice A m c, .slice B k d] w fun e w' => e = .returned (.tuple #[.agg #[.slice none 0 0, .int .i64 0], .int .i64 0, .int .i64 2]) ∧ Up w w' := by
  have i0 : (m : Int) ≠ (k : Int) := by omega
  go_enter Tryz.func27, Tryz.ntmps27
  go_wp2_with fail
  refine Calls.mono (HV.out _ (by (repeat (first | exact Below.refl _ _ | exact Go.RowKit.Hid.out (by assumption) | refine Up.trans ?_ (Up.drew _) | refine Up.trans ?_ (Up.drewN _ _) | refine Up.trans ?_ (Up.alloc _ _) | refine Up.trans ?_ (Go.RowKit.Hid.out (by assumption)))))) ?_
  rintro e w1 ⟨rfl, hu⟩
  have HU1 := Lib.hid hu
  clear hu
  go_wp2_with fail
  refine Calls.mono (HN.out _ (by (repeat (first | exact Below.refl _ _ | exact Go.RowKit.Hid.out (by assumption) | refine Up.trans ?_ (Up.drew _) | refine Up.trans ?_ (Up.drewN _ _) | refine Up.trans ?_ (Up.alloc _ _) | refine Up.trans ?_ (Go.RowKit.Hid.out (by assumption)))))) ?_
  rintro e w2 ⟨rfl, hu⟩
  have HU2 := Lib.hid hu
  clear hu
  have HR := Lib.hid ((CellF.new w none 0 0 0).up (HU1.out.trans HU2.out))
  have HP := Lib.hid ((HR.out.set none 0 0 0).facts)
  have HUZ := Lib.hid (Up.stored ((Up.alloc w (.cells #[.slice none 0 0, .int .i64 0] 33)).trans (HU1.out.trans HU2.out)) (Nat.le_refl _) (.slice none 0 0) (.int .i64 0))
  obtain ⟨r0, r1, f0, f1, lr⟩ := HR.out.facts
  go_wp2
  obtain ⟨z0, z1, -, -, -⟩ := HP.out
  refine bodyPost_ret (by simp [results, Tryz.results27, go_sem, z0, z1]; try rfl) rfl ?_
  exact ⟨rfl, HUZ.out⟩
/-- Combine for all arguments: what it answers, and when the error is OK. -/
theorem linCombine_all (A B : Option Addr) (c d : Nat) (n : Int) (fs : List (List Int × Int)) (ms : List (Int × Int)) (w : World) (hc : fs.length ≤ c) (hcm : c ≤ maxLen) (hr : RdE eltForm w A fs) (hd : ms.length ≤ d) (hdm : d ≤ maxLen) (hs : RdN w B ms) (hx : ∀ p, p ∈ ms → Rng p.1 p.2) (ht : Tab w) :
    ∃ (q : List Int × Int) (K E : Int), (∀ W, Up w W → Calls Tryz.prog 27 #[.int .i64 n, .slice A fs.length c, .slice B ms.length d] W fun e w' => ∃ A' c', e = .returned (.tuple #[.agg #[.slice A' q.1.length c', .int .i64 q.2], .int .i64 K, .int .i64 E]) ∧ RdI w' A' q.1 ∧ (∀ b off, A' = some ⟨b, off, none⟩ → W.heap.size ≤ b) ∧ Up W w') ∧
      ((E ≠ 0 ∧ q = ([], 0)) ∨ (E = 0 ∧ ∃ m : Nat, n = m ∧ validFs n fs = true ∧ okAll ms = true ∧ fs.length = ms.length ∧ combOk m fs ms = true ∧ q = combF m fs ms ∧ K = combK m fs ms)) := by
  have hl1 := len_le hc hcm
  have hv := fun W (hu : Up w W) => validForms_any A c n fs W hl1 (hr.up hu)
  have hp := fun W (hu : Up w W) => linValidNums_any B d ms W hd hdm (hs.up hu) hx (ht.up hu)
  rcases h1 : validFs n fs with _ | _
  · rw [h1] at hv
    exact ⟨([], 0), 0, 1, fun W hu => Calls.mono (linCombine_bad1 A B c d fs.length ms.length n W (Lib.hid fun W' hu' => hv W' (hu.trans hu'))) (by rintro e w' ⟨rfl, h⟩; exact ⟨none, 0, rfl, fun h => absurd rfl h, fun b off e => (by cases e), h⟩), .inl ⟨by decide, rfl⟩⟩
  rw [h1] at hv
  rcases h2 : okAll ms with _ | _
  · rw [h2] at hp
    exact ⟨([], 0), 0, 1, fun W hu => Calls.mono (linCombine_bad2 A B c d fs.length ms.length n W (Lib.hid fun W' hu' => hv W' (hu.trans hu')) (Lib.hid fun W' hu' => hp W' (hu.trans hu'))) (by rintro e w' ⟨rfl, h⟩; exact ⟨none, 0, rfl, fun h => absurd rfl h, fun b off e => (by cases e), h⟩), .inl ⟨by decide, rfl⟩⟩
  rw [h2] at hp
  by_cases h3 : fs.length = ms.length
  · obtain ⟨m, rfl, hm8, hf⟩ := validFs_dim h1
    refine ⟨combF m fs ms, combK m fs ms, combE m fs ms, fun W hu => linCombine_ok A B c d m fs ms W hc hcm (hr.up hu) hd hdm (hs.up hu) h1 h2 h3 hx (ht.up hu), ?_⟩
    rcases h4 : combOk m fs ms with _ | _
    · exact .inl ⟨by unfold combE; rw [h4]; decide, by unfold combF; rw [h4]; rfl⟩
    · exact .inr ⟨by unfold combE; rw [h4]; rfl, m, rfl, by first | exact h1 | rfl, by first | exact h2 | rfl, h3, by first | exact h4 | rfl, rfl, rfl⟩
  · exact ⟨([], 0), 0, 2, fun W hu => Calls.mono (linCombine_bad3 A B c d fs.length ms.length n W h3 (Lib.hid fun W' hu' => hv W' (hu.trans hu')) (Lib.hid fun W' hu' => hp W' (hu.trans hu'))) (by rintro e w' ⟨rfl, h⟩; exact ⟨none, 0, rfl, fun h => absurd rfl h, fun b off e => (by cases e), h⟩), .inl ⟨by decide, rfl⟩⟩
end Go.Proofs.YtgcmogldiahdpaaGreatDoor

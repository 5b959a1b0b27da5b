/- Walks of a law. -/
import Derived.Test.YtgcmogldiahdpaaGreatDoorQGZero1
import Derived.Test.YtgcmogldiahdpaaGreatDoorQHX
import Derived.Test.YtgcmogldiahdpaaGreatDoorQHJ2
import Derived.Test.YtgcmogldiahdpaaGreatDoorQHG
namespace Go.Proofs.YtgcmogldiahdpaaGreatDoor
open Go.RowKit Fm
set_option maxHeartbeats 4000000 in
set_option maxRecDepth 10000 in
/-- The walk for a solvable system whose equations are valid. -/
theorem linSolutions_some (A C : Option Addr) (c e n : Nat) (fs : List (List Int × Int)) (xs : List (Int × Int)) (w : World) (hc : fs.length ≤ 9223372036854775807) (hr : RdE eltForm w A fs) (he : xs.length ≤ e) (hem : e ≤ maxLen) (ho : RdN w C xs) (hy : ∀ p, p ∈ xs → Rng p.1 p.2) (ht : Tab w) (hx40 : ¬ (40 : Int) < (xs.length : Int))
    (HF : Hid (∀ W, Up w W → Calls Tryz.prog 16 #[.slice A fs.length c] W fun e w' => e = .returned (.bool true) ∧ Up W w'))
    (hv : validFs n fs = true) (hs : ((sysR n (fs.map rowF)).getD n none).isNone = true) (hl : (rowsR n (sysR n (fs.map rowF))).all (fun r => r.all limI) = true) :
    Calls Tryz.prog 8 #[.int .i64 n, .slice A fs.length c, .slice C xs.length e] w fun e w' => e = .returned (.bool true) ∧ Up w w' := by
  obtain ⟨hn, hv1, hvP, hvP1, hsP, hlP, heP, hsb, hse, hzz, hzs, hPl⟩ := sol_facts (xs := xs) hv hs hl
  have h120 : fs.length ≤ 120 := by
    simp only [validFs, Bool.and_eq_true, decide_eq_true_eq] at hv
    exact hv.1.2
  have HAW := Lib.hid (fun W (hu : Up w W) => linAwake_any W (ht.up hu))
  have HE1 := Lib.hid (fun W (hu : Up w W) => echelon_some A c n fs W hc (hr.up hu) hv (ht.up hu) hs hl)
  have HVP := Lib.hid (fun W (hu : Up w W) => refValidPoint_any C e n xs W he hem (ho.up hu) hy)
  have HE2 := Lib.hid (fun W A' c' (hu : Up w W) (h : RdE eltForm W A' (echF n fs)) => echelon_some A' c' n (echF n fs) W (by omega) h hvP (ht.up hu) hsP hlP)
  rw [heP] at HE2
  have HSM := Lib.hid (fun W A' c' (hu : Up w W) (h : RdE eltForm W A' (echF n fs)) => linSame_any A A' c c' n fs (echF n fs) W hc (by omega) (hr.up hu) h (ht.up hu))
  rw [hsb, hse] at HSM
  have HSF := Lib.hid (fun W A' B' c' d' (h : RdE eltForm W A' (echF n fs)) (h2 : RdE eltForm W B' (echF n fs)) => sameForms_any A' B' c' d' (echF n fs) (echF n fs) W (by omega) (by omega) h h2)
  rw [decide_eq_true rfl] at HSF
  have HZ1 : Hid (validP n xs = true → (∀ W, Up w W → Calls Tryz.prog 39 #[.slice A fs.length c, .slice C xs.length e] W fun e w' => e = .returned (.bool (zeroF fs xs)) ∧ Up W w') ∧ (∀ W A' c', Up w W → RdE eltForm W A' (echF n fs) → Calls Tryz.prog 39 #[.slice A' (echF n fs).length c', .slice C xs.length e] W fun e w' => e = .returned (.bool (zeroF fs xs)) ∧ Up W w')) := Lib.hid (fun h => by
    simp only [validP, Bool.and_eq_true, decide_eq_true_eq] at h
    refine ⟨fun W hu => zero_any A C c e n fs xs W hn (by omega) (hr.up hu) (ho.up hu) hv1 (by omega) h.2, fun W A' c' hu hp => ?_⟩
    have := zero_any A' C c' e n (echF n fs) xs W hn (by omega) hp (ho.up hu) hvP1 (by omega) h.2
    rwa [hzz (by omega)] at this)
  have HSV : Hid ((∀ W, Up w W → Calls Tryz.prog 31 #[.int .i64 n, .slice A fs.length c] W fun e w' => e = .returned (.tuple #[.slice none 0 0, .bool false, .int .i64 3]) ∧ Up W w') ∨
      ((∀ W, Up w W → Calls Tryz.prog 31 #[.int .i64 n, .slice A fs.length c] W fun e w' => ∃ g, e = .returned (.tuple #[.slice (some ⟨g, 0, none⟩) (solF n fs).length n, .bool true, .int .i64 0]) ∧ RdN w' (some ⟨g, 0, none⟩) (solF n fs) ∧ Up W w') ∧
       (∀ W g, Up w W → RdN W (some ⟨g, 0, none⟩) (solF n fs) → Calls Tryz.prog 23 #[.int .i64 n, .slice (some ⟨g, 0, none⟩) (solF n fs).length n] W fun e w' => e = .returned (.bool true) ∧ Up W w') ∧
       (∀ W g, Up w W → RdN W (some ⟨g, 0, none⟩) (solF n fs) → Calls Tryz.prog 39 #[.slice A fs.length c, .slice (some ⟨g, 0, none⟩) (solF n fs).length n] W fun e w' => e = .returned (.bool true) ∧ Up W w'))) := Lib.hid (by
    rcases hf : (leadR n (sysR n (fs.map rowF))).all (fun c => fits (solQ n (sysR n (fs.map rowF)) c)) with _ | _
    · exact .inl fun W hu => solve_full A c n fs W hc (hr.up hu) hv (ht.up hu) hs hf
    · have hok := sol_ok hf
      have hsl : (solF n fs).length = n := solAt_length _ _ _
      have hvp : validP n (solF n fs) = true := by
        simp only [validP, Bool.and_eq_true, decide_eq_true_eq]
        exact ⟨⟨by simp [dimI]; omega, by rw [hsl]⟩, hok⟩
      refine .inr ⟨fun W hu => solve_some A c n fs W hc (hr.up hu) hv (ht.up hu) hs hf, fun W g hu hp => ?_, fun W g hu hp => ?_⟩
      · have := refValidPoint_any (some ⟨g, 0, none⟩) n n (solF n fs) W (by omega) (by unfold maxLen; omega) hp (rng_ok hok)
        rwa [hvp] at this
      · have := zero_any A (some ⟨g, 0, none⟩) c n n fs (solF n fs) W hn (by omega) (hr.up hu) hp hv1 hsl hok
        rwa [hzs] at this)
  clear hr ho hy ht hv hs hl hv1 hvP hvP1 hsP hlP heP hsb hse hzz hzs hPl h120 hc he hem
  generalize validP n xs = vp at *
  generalize zeroF fs xs = z at *
  generalize echF n fs = P at *
  generalize solF n fs = X at *
  go_enter Tryz.func8, Tryz.ntmps8
  go_wp2_with fail
  refine Calls.mono (HF.out _ (by (repeat (first | exact Below.refl _ _ | exact Go.RowKit.Hid.out (by assumption) | refine Up.trans ?_ (Up.drew _) | refine Up.trans ?_ (Up.drewN _ _) | refine Up.trans ?_ (Up.alloc _ _) | refine Up.trans ?_ (Go.RowKit.Hid.out (by assumption)))))) ?_
  rintro e0 w1 ⟨rfl, hu⟩
  have HU1 := Lib.hid hu
  clear hu
  go_wp2_with fail
  refine Calls.mono (HE1.out _ (by (repeat (first | exact Below.refl _ _ | exact Go.RowKit.Hid.out (by assumption) | refine Up.trans ?_ (Up.drew _) | refine Up.trans ?_ (Up.drewN _ _) | refine Up.trans ?_ (Up.alloc _ _) | refine Up.trans ?_ (Go.RowKit.Hid.out (by assumption)))))) ?_
  rintro e0 w2 ⟨A2, c2, rfl, hrd, hu⟩
  have HR2 := Lib.hid hrd
  have HU2 := Lib.hid (HU1.out.trans hu)
  clear hu hrd
  go_wp2_with fail
  refine Calls.mono (HVP.out _ HU2.out) ?_
  rintro e0 w3 ⟨rfl, hu⟩
  have HR3 := Lib.hid (HR2.out.up hu)
  have HU3 := Lib.hid (HU2.out.trans hu)
  clear hu
  go_wp2_with fail
  refine Calls.mono (HE2.out _ _ _ HU3.out HR3.out) ?_
  rintro e0 w4 ⟨A4, c4, rfl, hrd, hu⟩
  have HQ4 := Lib.hid hrd
  have HR4 := Lib.hid (HR3.out.up hu)
  have HU4 := Lib.hid (HU3.out.trans hu)
  clear hu hrd
  go_wp2_with fail
  refine Calls.mono (HSM.out _ _ _ HU4.out HR4.out) ?_
  rintro e0 w5 ⟨rfl, hu⟩
  have HQ5 := Lib.hid (HQ4.out.up hu)
  have HR5 := Lib.hid (HR4.out.up hu)
  have HU5 := Lib.hid (HU4.out.trans hu)
  clear hu
  go_wp2_with fail
  refine Calls.mono (HSF.out _ _ _ _ _ HR5.out HQ5.out) ?_
  rintro e0 w6 ⟨rfl, hu⟩
  have HR6 := Lib.hid (HR5.out.up hu)
  have HU6 := Lib.hid (HU5.out.trans hu)
  clear hu
  cases vp
  ·
    go_wp2_with fail
    rcases HSV.out with hs | ⟨hs1, hs2, hs3⟩
    · refine Calls.mono (hs _ HU6.out) ?_
      rintro e0 w9 ⟨rfl, hu⟩
      have HU9 := Lib.hid (HU6.out.trans hu)
      clear hu hs HSV
      go_wp2_with fail
      refine Calls.mono (HAW.out _ HU9.out) ?_
      rintro e0 w10 ⟨rfl, hu⟩
      go_wp2
      go_ret
      exact ⟨rfl, HU9.out.trans hu⟩
    · have HS2 := Lib.hid hs2
      have HS3 := Lib.hid hs3
      refine Calls.mono (hs1 _ HU6.out) ?_
      rintro e0 w9 ⟨g, rfl, hrd, hu⟩
      have HX9 := Lib.hid hrd
      have HU9 := Lib.hid (HU6.out.trans hu)
      clear hu hrd hs1 hs2 hs3 HSV
      go_wp2_with fail
      refine Calls.mono (HS2.out _ _ HU9.out HX9.out) ?_
      rintro e0 w10 ⟨rfl, hu⟩
      have HX10 := Lib.hid (HX9.out.up hu)
      have HU10 := Lib.hid (HU9.out.trans hu)
      clear hu
      go_wp2_with fail
      refine Calls.mono (HS3.out _ _ HU10.out HX10.out) ?_
      rintro e0 w11 ⟨rfl, hu⟩
      have HU11 := Lib.hid (HU10.out.trans hu)
      clear hu
      go_wp2_with fail
      refine Calls.mono (HAW.out _ HU11.out) ?_
      rintro e0 w12 ⟨rfl, hu⟩
      go_wp2
      go_ret
      exact ⟨rfl, HU11.out.trans hu⟩
  · obtain ⟨hz1, hz2⟩ := HZ1.out (by trivial)
    have HZ2 := Lib.hid hz1
    have HZ3 := Lib.hid hz2
    clear hz1 hz2 HZ1
    go_wp2_with fail
    refine Calls.mono (HZ2.out _ HU6.out) ?_
    rintro e0 w7 ⟨rfl, hu⟩
    have HR7 := Lib.hid (HR6.out.up hu)
    have HU7 := Lib.hid (HU6.out.trans hu)
    clear hu
    go_wp2_with fail
    refine Calls.mono (HZ3.out _ _ _ HU7.out HR7.out) ?_
    rintro e0 w8 ⟨rfl, hu⟩
    have HU8 := Lib.hid (HU7.out.trans hu)
    have hzz : (z != z) = false := by cases z <;> rfl
    clear hu
    go_wp2_with fail
    rcases HSV.out with hs | ⟨hs1, hs2, hs3⟩
    · refine Calls.mono (hs _ HU8.out) ?_
      rintro e0 w9 ⟨rfl, hu⟩
      have HU9 := Lib.hid (HU8.out.trans hu)
      clear hu hs HSV
      go_wp2_with fail
      refine Calls.mono (HAW.out _ HU9.out) ?_
      rintro e0 w10 ⟨rfl, hu⟩
      go_wp2
      go_ret
      exact ⟨rfl, HU9.out.trans hu⟩
    · have HS2 := Lib.hid hs2
      have HS3 := Lib.hid hs3
      refine Calls.mono (hs1 _ HU8.out) ?_
      rintro e0 w9 ⟨g, rfl, hrd, hu⟩
      have HX9 := Lib.hid hrd
      have HU9 := Lib.hid (HU8.out.trans hu)
      clear hu hrd hs1 hs2 hs3 HSV
      go_wp2_with fail
      refine Calls.mono (HS2.out _ _ HU9.out HX9.out) ?_
      rintro e0 w10 ⟨rfl, hu⟩
      have HX10 := Lib.hid (HX9.out.up hu)
      have HU10 := Lib.hid (HU9.out.trans hu)
      clear hu
      go_wp2_with fail
      refine Calls.mono (HS3.out _ _ HU10.out HX10.out) ?_
      rintro e0 w11 ⟨rfl, hu⟩
      have HU11 := Lib.hid (HU10.out.trans hu)
      clear hu
      go_wp2_with fail
      refine Calls.mono (HAW.out _ HU11.out) ?_
      rintro e0 w12 ⟨rfl, hu⟩
      go_wp2
      go_ret
      exact ⟨rfl, HU11.out.trans hu⟩
set_option maxHeartbeats 2000000 in
set_option maxRecDepth 10000 in
/-- The walk where the equations have no solution. -/
theorem linSolutions_none (A C : Option Addr) (c e n : Nat) (fs : List (List Int × Int)) (xs : List (Int × Int)) (w : World) (hc : fs.length ≤ 9223372036854775807) (hr : RdE eltForm w A fs) (he : xs.length ≤ e) (hem : e ≤ maxLen) (ho : RdN w C xs) (hy : ∀ p, p ∈ xs → Rng p.1 p.2) (ht : Tab w) (hx40 : ¬ (40 : Int) < (xs.length : Int))
    (HF : Hid (∀ W, Up w W → Calls Tryz.prog 16 #[.slice A fs.length c] W fun e w' => e = .returned (.bool true) ∧ Up W w'))
    (hv : validFs n fs = true) (hs : ((sysR n (fs.map rowF)).getD n none).isNone = false) :
    Calls Tryz.prog 8 #[.int .i64 n, .slice A fs.length c, .slice C xs.length e] w fun e w' => e = .returned (.bool true) ∧ Up w w' := by
  obtain ⟨-, hn8, h120, hall⟩ := validFs_all hv
  have hn : n ≤ 8 := by omega
  have HAW := Lib.hid (fun W (hu : Up w W) => linAwake_any W (ht.up hu))
  have HE1 := Lib.hid (fun W (hu : Up w W) => echelon_none A c n fs W hc (hr.up hu) hv (ht.up hu) hs)
  have HVP := Lib.hid (fun W (hu : Up w W) => refValidPoint_any C e n xs W he hem (ho.up hu) hy)
  have HZ1 : Hid (validP n xs = true → ∀ W, Up w W → Calls Tryz.prog 39 #[.slice A fs.length c, .slice C xs.length e] W fun e w' => e = .returned (.bool false) ∧ Up W w') := Lib.hid (fun h => by
    simp only [validP, Bool.and_eq_true, decide_eq_true_eq] at h
    intro W hu
    have := zero_any A C c e n fs xs W hn (by omega) (hr.up hu) (ho.up hu) (validFs_each hv) (by omega) h.2
    rwa [zeroF_none (by omega) (fun f hf => by have := (hall f hf).1; simpa using this) (by omega) hs] at this)
  clear hr ho hy ht hv hs hall h120 hc he hem hn8
  generalize validP n xs = vp at *
  go_enter Tryz.func8, Tryz.ntmps8
  go_wp2_with fail
  refine Calls.mono (HF.out _ (by (repeat (first | exact Below.refl _ _ | exact Go.RowKit.Hid.out (by assumption) | refine Up.trans ?_ (Up.drew _) | refine Up.trans ?_ (Up.drewN _ _) | refine Up.trans ?_ (Up.alloc _ _) | refine Up.trans ?_ (Go.RowKit.Hid.out (by assumption)))))) ?_
  rintro e0 w1 ⟨rfl, hu⟩
  have HU1 := Lib.hid hu
  clear hu
  go_wp2_with fail
  refine Calls.mono (HE1.out _ (by (repeat (first | exact Below.refl _ _ | exact Go.RowKit.Hid.out (by assumption) | refine Up.trans ?_ (Up.drew _) | refine Up.trans ?_ (Up.drewN _ _) | refine Up.trans ?_ (Up.alloc _ _) | refine Up.trans ?_ (Go.RowKit.Hid.out (by assumption)))))) ?_
  rintro e0 w2 ⟨rfl, hu⟩
  have HU2 := Lib.hid (HU1.out.trans hu)
  clear hu
  go_wp2_with fail
  refine Calls.mono (HVP.out _ HU2.out) ?_
  rintro e0 w3 ⟨rfl, hu⟩
  have HU3 := Lib.hid (HU2.out.trans hu)
  clear hu
  cases vp
  · go_wp2_with fail
    refine Calls.mono (HAW.out _ HU3.out) ?_
    rintro e0 w4 ⟨rfl, hu⟩
    go_wp2
    go_ret
    exact ⟨rfl, HU3.out.trans hu⟩
  · have HZ2 := Lib.hid (HZ1.out (by trivial))
    clear HZ1
    go_wp2_with fail
    refine Calls.mono (HZ2.out _ HU3.out) ?_
    rintro e0 w4 ⟨rfl, hu⟩
    have HU4 := Lib.hid (HU3.out.trans hu)
    clear hu
    go_wp2_with fail
    refine Calls.mono (HAW.out _ HU4.out) ?_
    rintro e0 w5 ⟨rfl, hu⟩
    go_wp2
    go_ret
    exact ⟨rfl, HU4.out.trans hu⟩
set_option maxHeartbeats 2000000 in
set_option maxRecDepth 10000 in
/-- The walk where Echelon answers an error. -/
theorem linSolutions_err (A C : Option Addr) (c e : Nat) (n E : Int) (fs : List (List Int × Int)) (xs : List (Int × Int)) (w : World) (ht : Tab w) (hx40 : ¬ (40 : Int) < (xs.length : Int))
    (HF : Hid (∀ W, Up w W → Calls Tryz.prog 16 #[.slice A fs.length c] W fun e w' => e = .returned (.bool true) ∧ Up W w'))
    (HE1 : Hid (∀ W, Up w W → Calls Tryz.prog 29 #[.int .i64 n, .slice A fs.length c] W fun e w' => e = .returned (.tuple #[.slice none 0 0, .bool false, .int .i64 E]) ∧ Up W w')) (hE : ¬ E = 0) :
    Calls Tryz.prog 8 #[.int .i64 n, .slice A fs.length c, .slice C xs.length e] w fun e w' => e = .returned (.bool true) ∧ Up w w' := by
  have HAW := Lib.hid (fun W (hu : Up w W) => linAwake_any W (ht.up hu))
  clear ht
  go_enter Tryz.func8, Tryz.ntmps8
  go_wp2_with fail
  refine Calls.mono (HF.out _ (by (repeat (first | exact Below.refl _ _ | exact Go.RowKit.Hid.out (by assumption) | refine Up.trans ?_ (Up.drew _) | refine Up.trans ?_ (Up.drewN _ _) | refine Up.trans ?_ (Up.alloc _ _) | refine Up.trans ?_ (Go.RowKit.Hid.out (by assumption)))))) ?_
  rintro e0 w1 ⟨rfl, hu⟩
  have HU1 := Lib.hid hu
  clear hu
  go_wp2_with fail
  refine Calls.mono (HE1.out _ (by (repeat (first | exact Below.refl _ _ | exact Go.RowKit.Hid.out (by assumption) | refine Up.trans ?_ (Up.drew _) | refine Up.trans ?_ (Up.drewN _ _) | refine Up.trans ?_ (Up.alloc _ _) | refine Up.trans ?_ (Go.RowKit.Hid.out (by assumption)))))) ?_
  rintro e0 w2 ⟨rfl, hu⟩
  have HU2 := Lib.hid (HU1.out.trans hu)
  clear hu
  go_wp2_with fail
  refine Calls.mono (HAW.out _ HU2.out) ?_
  rintro e0 w3 ⟨rfl, hu⟩
  go_wp2
  go_ret
  exact ⟨rfl, HU2.out.trans hu⟩
set_option maxHeartbeats 2000000 in
set_option maxRecDepth 10000 in
/-- The walk for too many forms. -/
theorem linSolutions_many (A C : Option Addr) (c e : Nat) (n : Int) (fs : List (List Int × Int)) (xs : List (Int × Int)) (w : World) (ht : Tab w) 
    (HF : Hid (∀ W, Up w W → Calls Tryz.prog 16 #[.slice A fs.length c] W fun e w' => e = .returned (.bool false) ∧ Up W w')) :
    Calls Tryz.prog 8 #[.int .i64 n, .slice A fs.length c, .slice C xs.length e] w fun e w' => e = .returned (.bool true) ∧ Up w w' := by
  have HAW := Lib.hid (fun W (hu : Up w W) => linAwake_any W (ht.up hu))
  clear ht
  go_enter Tryz.func8, Tryz.ntmps8
  go_wp2_with fail
  refine Calls.mono (HF.out _ (by (repeat (first | exact Below.refl _ _ | exact Go.RowKit.Hid.out (by assumption) | refine Up.trans ?_ (Up.drew _) | refine Up.trans ?_ (Up.drewN _ _) | refine Up.trans ?_ (Up.alloc _ _) | refine Up.trans ?_ (Go.RowKit.Hid.out (by assumption)))))) ?_
  rintro e0 w1 ⟨rfl, hu⟩
  have HU1 := Lib.hid hu
  clear hu
  go_wp2_with fail
  refine Calls.mono (HAW.out _ HU1.out) ?_
  rintro e0 w3 ⟨rfl, hu⟩
  go_wp2
  go_ret
  exact ⟨rfl, HU1.out.trans hu⟩
set_option maxHeartbeats 2000000 in
set_option maxRecDepth 10000 in
/-- The walk for too long a point. -/
theorem linSolutions_long (A C : Option Addr) (c e : Nat) (n : Int) (fs : List (List Int × Int)) (xs : List (Int × Int)) (w : World) (ht : Tab w) (hx40 : (40 : Int) < (xs.length : Int))
    (HF : Hid (∀ W, Up w W → Calls Tryz.prog 16 #[.slice A fs.length c] W fun e w' => e = .returned (.bool true) ∧ Up W w')) :
    Calls Tryz.prog 8 #[.int .i64 n, .slice A fs.length c, .slice C xs.length e] w fun e w' => e = .returned (.bool true) ∧ Up w w' := by
  have HAW := Lib.hid (fun W (hu : Up w W) => linAwake_any W (ht.up hu))
  clear ht
  go_enter Tryz.func8, Tryz.ntmps8
  go_wp2_with fail
  refine Calls.mono (HF.out _ (by (repeat (first | exact Below.refl _ _ | exact Go.RowKit.Hid.out (by assumption) | refine Up.trans ?_ (Up.drew _) | refine Up.trans ?_ (Up.drewN _ _) | refine Up.trans ?_ (Up.alloc _ _) | refine Up.trans ?_ (Go.RowKit.Hid.out (by assumption)))))) ?_
  rintro e0 w1 ⟨rfl, hu⟩
  have HU1 := Lib.hid hu
  clear hu
  go_wp2_with fail
  refine Calls.mono (HAW.out _ HU1.out) ?_
  rintro e0 w3 ⟨rfl, hu⟩
  go_wp2
  go_ret
  exact ⟨rfl, HU1.out.trans hu⟩
/-- The law LinSolutions, for all arguments. -/
theorem linSolutionsLaw_any (A C : Option Addr) (c e : Nat) (n : Int) (fs : List (List Int × Int)) (xs : List (Int × Int)) (w : World) (hc : fs.length ≤ c) (hcm : c ≤ maxLen) (hr : RdE eltForm w A fs) (he : xs.length ≤ e) (hem : e ≤ maxLen) (ho : RdN w C xs) (hy : ∀ p, p ∈ xs → Rng p.1 p.2) (ht : Tab w) :
    Calls Tryz.prog 8 #[.int .i64 n, .slice A fs.length c, .slice C xs.length e] w fun e w' => e = .returned (.bool true) ∧ Up w w' := by
  have hl1 := len_le hc hcm
  have HF := Lib.hid (fun W (hu : Up w W) => few_all A c fs W hl1 (hr.up hu))
  rcases hf : fewF fs with _ | _
  · rw [hf] at HF
    exact linSolutions_many A C c e n fs xs w ht HF
  rw [hf] at HF
  by_cases h40 : (40 : Int) < (xs.length : Int)
  · exact linSolutions_long A C c e n fs xs w ht h40 HF
  rcases hv : validFs n fs with _ | _
  · exact linSolutions_err A C c e n 1 fs xs w ht h40 HF (Lib.hid fun W hu => echelon_bad A c n fs W hl1 (hr.up hu) hv) (by decide)
  obtain ⟨h0, -⟩ := validFs_all hv
  obtain ⟨m, rfl⟩ : ∃ m : Nat, n = m := ⟨n.toNat, by omega⟩
  rcases hs : ((sysR m (fs.map rowF)).getD m none).isNone with _ | _
  · exact linSolutions_none A C c e m fs xs w hl1 hr he hem ho hy ht h40 HF hv hs
  rcases hl : (rowsR m (sysR m (fs.map rowF))).all (fun r => r.all limI) with _ | _
  · exact linSolutions_err A C c e m 3 fs xs w ht h40 HF (Lib.hid fun W hu => echelon_full A c m fs W hl1 (hr.up hu) hv (ht.up hu) hs hl) (by decide)
  · exact linSolutions_some A C c e m fs xs w hl1 hr he hem ho hy ht h40 HF hv hs hl
end Go.Proofs.YtgcmogldiahdpaaGreatDoor

/- Plain facts about the solutions of a system, and what Echelon and Solve answer. -/
import Derived.Test.YtacbjbnocepnaaaGreatDoorQHW
import Derived.Test.YtacbjbnocepnaaaGreatDoorQHI
import Derived.Test.YtacbjbnocepnaaaGreatDoorQHG
import Derived.Test.YtacbjbnocepnaaaGreatDoorQGR
import Derived.Test.YtacbjbnocepnaaaGreatDoorQHV
namespace Go.Proofs.YtacbjbnocepnaaaGreatDoor
open Fm
theorem rowF_parts (T : List Int) (n : Nat) (h : T.length = n + 1) : rowF (T.take n, T.getD n 0) = T := by
  unfold rowF
  have h1 : T.getD n 0 = T[n] := by rw [List.getD_eq_getElem?_getD, List.getElem?_eq_getElem (by omega)]; rfl
  simp only
  rw [h1, ← List.take_succ_eq_append_getElem (by omega), List.take_of_length_le (by omega)]
theorem validFs_each {n : Int} {fs : List (List Int × Int)} (h : validFs n fs = true) : ∀ f, f ∈ fs → validF n f = true := by
  simp only [validFs, Bool.and_eq_true, List.all_eq_true] at h
  exact h.2
end Go.Proofs.YtacbjbnocepnaaaGreatDoor
namespace Go.Proofs.YtacbjbnocepnaaaGreatDoor
open Go.RowKit Fm
set_option maxHeartbeats 1000000 in
set_option maxRecDepth 10000 in
theorem echelon_bad (A : Option Addr) (c : Nat) (n : Int) (fs : List (List Int × Int)) (w : World) (hc : fs.length ≤ 9223372036854775807) (hr : RdE eltForm w A fs) (hv : validFs n fs = false) :
    Calls Tryz.prog 13 #[.int .i64 n, .slice A fs.length c] w fun e w' => e = .returned (.tuple #[.slice none 0 0, .bool false, .int .i64 1]) ∧ Up w w' := by
  have HV := Lib.hid (fun W (hu : Up w W) => validForms_any A c n fs W hc (hr.up hu))
  rw [hv] at HV
  clear hr hv hc
  go_enter Tryz.func13, Tryz.ntmps13
  go_wp2_with fail
  refine Calls.mono (HV.out _ (by (repeat (first | exact Below.refl _ _ | exact Hid.out (by assumption) | refine Up.trans ?_ (Up.drew _) | refine Up.trans ?_ (Up.drewN _ _) | refine Up.trans ?_ (Up.alloc _ _) | refine Up.trans ?_ (Hid.out (by assumption)))))) ?_
  rintro e w1 ⟨rfl, hu⟩
  have HU1 := Lib.hid hu
  clear hu
  go_wp2
  refine bodyPost_ret (by simp [results, Tryz.results13, go_sem]; try rfl) rfl ?_
  exact ⟨rfl, by (repeat (first | exact Below.refl _ _ | exact Hid.out (by assumption) | refine Up.trans ?_ (Up.drew _) | refine Up.trans ?_ (Up.drewN _ _) | refine Up.trans ?_ (Up.alloc _ _) | refine Up.trans ?_ (Hid.out (by assumption))))⟩
abbrev echF (n : Nat) (fs : List (List Int × Int)) : List (List Int × Int) := (rowsR n (sysR n (fs.map rowF))).map (toF n)
theorem echelon_none (A : Option Addr) (c n : Nat) (fs : List (List Int × Int)) (w : World) (hc : fs.length ≤ 9223372036854775807) (hr : RdE eltForm w A fs) (hv : validFs n fs = true) (ht : Tab w) (hs : ((sysR n (fs.map rowF)).getD n none).isNone = false) :
    Calls Tryz.prog 13 #[.int .i64 n, .slice A fs.length c] w fun e w' => e = .returned (.tuple #[.slice none 0 0, .bool false, .int .i64 0]) ∧ Up w w' := by
  refine Calls.mono (echelon_ok A c n fs w hc hr hv ht) ?_
  rintro e w' ⟨⟨v, b, er, rfl, h⟩, hu⟩
  rw [if_pos hs] at h
  obtain ⟨rfl, rfl, rfl⟩ := h
  exact ⟨rfl, hu⟩
theorem echelon_full (A : Option Addr) (c n : Nat) (fs : List (List Int × Int)) (w : World) (hc : fs.length ≤ 9223372036854775807) (hr : RdE eltForm w A fs) (hv : validFs n fs = true) (ht : Tab w) (hs : ((sysR n (fs.map rowF)).getD n none).isNone = true) (hl : (rowsR n (sysR n (fs.map rowF))).all (fun r => r.all limI) = false) :
    Calls Tryz.prog 13 #[.int .i64 n, .slice A fs.length c] w fun e w' => e = .returned (.tuple #[.slice none 0 0, .bool false, .int .i64 3]) ∧ Up w w' := by
  refine Calls.mono (echelon_ok A c n fs w hc hr hv ht) ?_
  rintro e w' ⟨⟨v, b, er, rfl, h⟩, hu⟩
  rw [if_neg (by rw [hs]; decide), if_neg (by rw [hl]; decide)] at h
  obtain ⟨rfl, rfl, rfl⟩ := h
  exact ⟨rfl, hu⟩
theorem echelon_some (A : Option Addr) (c n : Nat) (fs : List (List Int × Int)) (w : World) (hc : fs.length ≤ 9223372036854775807) (hr : RdE eltForm w A fs) (hv : validFs n fs = true) (ht : Tab w) (hs : ((sysR n (fs.map rowF)).getD n none).isNone = true) (hl : (rowsR n (sysR n (fs.map rowF))).all (fun r => r.all limI) = true) :
    Calls Tryz.prog 13 #[.int .i64 n, .slice A fs.length c] w fun e w' => ∃ A' c', e = .returned (.tuple #[.slice A' (echF n fs).length c', .bool true, .int .i64 0]) ∧ RdE eltForm w' A' (echF n fs) ∧ Up w w' := by
  refine Calls.mono (echelon_ok A c n fs w hc hr hv ht) ?_
  rintro e w' ⟨⟨v, b, er, rfl, h⟩, hu⟩
  rw [if_neg (by rw [hs]; decide), if_pos hl] at h
  obtain ⟨⟨A', c', rfl, -, -, h3, -⟩, rfl, rfl⟩ := h
  exact ⟨A', c', by rw [List.length_map], h3, hu⟩
theorem solve_full (A : Option Addr) (c n : Nat) (fs : List (List Int × Int)) (w : World) (hc : fs.length ≤ 9223372036854775807) (hr : RdE eltForm w A fs) (hv : validFs n fs = true) (ht : Tab w) (hs : ((sysR n (fs.map rowF)).getD n none).isNone = true) (hl : (leadR n (sysR n (fs.map rowF))).all (fun c => fits (solQ n (sysR n (fs.map rowF)) c)) = false) :
    Calls Tryz.prog 15 #[.int .i64 n, .slice A fs.length c] w fun e w' => e = .returned (.tuple #[.slice none 0 0, .bool false, .int .i64 3]) ∧ Up w w' := by
  refine Calls.mono (solve_ok A c n fs w hc hr hv ht) ?_
  rintro e w' ⟨⟨v, b, er, rfl, h⟩, hu⟩
  rw [if_neg (by rw [hs]; decide), if_neg (by rw [hl]; decide)] at h
  obtain ⟨rfl, rfl, rfl⟩ := h
  exact ⟨rfl, hu⟩
abbrev solF (n : Nat) (fs : List (List Int × Int)) : List (Int × Int) := solAt n (sysR n (fs.map rowF)) (leadR n (sysR n (fs.map rowF)))
theorem solve_some (A : Option Addr) (c n : Nat) (fs : List (List Int × Int)) (w : World) (hc : fs.length ≤ 9223372036854775807) (hr : RdE eltForm w A fs) (hv : validFs n fs = true) (ht : Tab w) (hs : ((sysR n (fs.map rowF)).getD n none).isNone = true) (hl : (leadR n (sysR n (fs.map rowF))).all (fun c => fits (solQ n (sysR n (fs.map rowF)) c)) = true) :
    Calls Tryz.prog 15 #[.int .i64 n, .slice A fs.length c] w fun e w' => ∃ g, e = .returned (.tuple #[.slice (some ⟨g, 0, none⟩) (solF n fs).length n, .bool true, .int .i64 0]) ∧ RdN w' (some ⟨g, 0, none⟩) (solF n fs) ∧ Up w w' := by
  refine Calls.mono (solve_ok A c n fs w hc hr hv ht) ?_
  rintro e w' ⟨⟨v, b, er, rfl, h⟩, hu⟩
  rw [if_neg (by rw [hs]; decide), if_pos hl] at h
  obtain ⟨⟨g, rfl, h3, -⟩, rfl, rfl⟩ := h
  exact ⟨g, by rw [solAt_length], h3.rd, hu⟩
end Go.Proofs.YtacbjbnocepnaaaGreatDoor

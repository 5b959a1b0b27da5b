/- What the reference's elimination answers for valid equations; contract of its comparison of systems, and the walk of the law. -/
import Derived.Test.YtacbjbnocepnaaaGreatDoorQIK
import Derived.Test.YtacbjbnocepnaaaGreatDoorQIE
import Derived.Test.YtacbjbnocepnaaaGreatDoorQHT
import Derived.Test.YtacbjbnocepnaaaGreatDoorQHR
import Derived.Test.YtacbjbnocepnaaaGreatDoorQHX
import Derived.Test.YtacbjbnocepnaaaGreatDoorQIH
import Derived.Test.YtacbjbnocepnaaaGreatDoorQHT2
import Derived.Deep.RegionWith
import Derived.Test.YtacbjbnocepnaaaGreatDoorQHV
import Derived.Test.YtacbjbnocepnaaaGreatDoorQHJ
import Derived.Test.YtacbjbnocepnaaaGreatDoorQHG
namespace Go.Proofs.YtacbjbnocepnaaaGreatDoor
open Go.RowKit Fm
theorem validFs_dim9 {n : Int} {fs : List (List Int × Int)} (h : validFs n fs = true) : ∃ m : Nat, n = m ∧ m ≤ 8 ∧ fs.length ≤ 120 := by
  simp only [validFs, Bool.and_eq_true, decide_eq_true_eq, dimI] at h
  exact ⟨n.toNat, by omega, by omega, h.1.2⟩
theorem rowsOk_of {n : Nat} {fs : List (List Int × Int)} (hv : validFs n fs = true) : RowsOk n 0 3 (fs, []) := by
  refine ⟨fun r hr => ?_, fun r hr => by cases hr⟩
  have h := validFs_each hv r hr
  simp only [validF, Bool.and_eq_true, List.all_eq_true, decide_eq_true_eq] at h
  refine ⟨by have := h.1.1.2; omega, fun i hi => by omega, rowF_rl.2 ⟨fun z hz => lim_rl (h.2 z hz), lim_rl h.1.2⟩⟩
def solL (n : Nat) (fs : List (List Int × Int)) : List (List Int × Int) := if ((sysR n (fs.map rowF)).getD n none).isNone = true then echF n fs else []
theorem toF_of {n : Nat} {r : List Int × Int} (h : r.1.length = n) : toF n (rowF r) = r := by
  unfold toF rowF
  rw [List.take_left' h, List.getD_eq_getElem?_getD, List.getElem?_append_right (by omega), h, Nat.sub_self]
  rfl
theorem solvedF_facts {n : Nat} {fs : List (List Int × Int)} (hn : n ≤ 8) (h : RowsOk n 0 3 (fs, [])) :
    (solvedF n fs).1.all (fun r => decide (r.2 = 0)) = ((sysR n (fs.map rowF)).getD n none).isNone ∧ (((sysR n (fs.map rowF)).getD n none).isNone = true → (solvedF n fs).2 = echF n fs) := by
  have hok := solvedF_small h hn (Nat.le_refl n)
  obtain ⟨-, h2⟩ := solvedF_ok h n (Nat.le_refl n)
  have hl : ∀ r, r ∈ fs.map rowF → r.length = n + 1 := fun r hr => by
    obtain ⟨f, h1, rfl⟩ := List.mem_map.1 hr
    have := (h.one f h1).1
    simp [rowF, this]
  obtain ⟨k1, k2⟩ := solved_eq (n := n) (by omega) hl
  rw [← h2] at k1 k2
  refine ⟨?_, fun hs => ?_⟩
  · rw [← k1]
    simp only
    rw [List.all_map]
    have : ∀ r, r ∈ (solvedF n fs).1 → decide (r.2 = 0) = ((fun r : List Int => decide (r.getD n 0 = 0)) ∘ rowF) r := fun r hr => by
      have hr1 := (hok.one r hr).1
      simp only [Function.comp]
      congr 1
      unfold rowF
      rw [List.getD_eq_getElem?_getD, List.getElem?_append_right (by omega), hr1, Nat.sub_self]
      rfl
    clear k1 k2 h2 hok
    generalize (solvedF n fs).1 = l at *
    induction l with
    | nil => rfl
    | cons a l ih => rw [List.all_cons, List.all_cons, this a (by simp), ih (fun r hr => this r (by simp [hr]))]
  · have h3 := k2 (by simpa using hs)
    simp only at h3
    unfold echF
    rw [← h3, List.map_map]
    conv => lhs; rw [← List.map_id (solvedF n fs).2]
    exact List.map_congr_left fun r hr => (toF_of (hok.two r hr).1).symm
theorem solL_ok {n : Nat} {fs : List (List Int × Int)} (hn : n ≤ 8) (h : RowsOk n 0 3 (fs, [])) : ∀ r, r ∈ solL n fs → r.1.length = n ∧ (∀ z, z ∈ r.1 → rl z ≤ 1023) ∧ rl r.2 ≤ 1023 := fun r hr => by
  unfold solL at hr
  split at hr
  · rename_i hs
    rw [← (solvedF_facts hn h).2 hs] at hr
    obtain ⟨h1, h2⟩ := (solvedF_small h hn (Nat.le_refl n)).two r hr
    exact ⟨h1, rowF_rl.1 h2⟩
  · cases hr
theorem solL_len {n : Nat} {fs : List (List Int × Int)} (hn : n ≤ 8) (h : RowsOk n 0 3 (fs, [])) : (solL n fs).length ≤ 8 := by
  unfold solL
  split
  · rename_i hs
    rw [← (solvedF_facts hn h).2 hs]
    exact Nat.le_trans (solvedF_len n fs).2 hn
  · exact Nat.zero_le _
theorem refSolved_of (A : Option Addr) (c n : Nat) (fs : List (List Int × Int)) (w : World) (hn : n ≤ 8) (hfs : fs.length ≤ 1000000) (hr : RdE eltW w A fs) (h : RowsOk n 0 3 (fs, [])) :
    Calls Tryz.prog 56 #[.int .i64 n, .slice A fs.length c] w fun e w' => ∃ A' c', e = .returned (.tuple #[.slice A' (solL n fs).length c', .bool ((sysR n (fs.map rowF)).getD n none).isNone]) ∧ RdE eltW w' A' (solL n fs) ∧ Up w w' := by
  refine Calls.mono (refSolved_any A c n fs w hn hfs hr h) ?_
  rintro e w' ⟨hs, hu⟩
  obtain ⟨k1, k2⟩ := solvedF_facts hn h
  unfold SolvedRes at hs
  rw [k1] at hs
  unfold solL
  rcases hP : ((sysR n (fs.map rowF)).getD n none).isNone with _ | _
  · rw [hP, if_neg (by decide)] at hs
    subst hs
    rw [if_neg (by decide)]
    exact ⟨none, 0, rfl, fun h => absurd rfl h, hu⟩
  · rw [hP, if_pos rfl] at hs
    obtain ⟨A', c', rfl, h3, -⟩ := hs
    rw [if_pos rfl, ← k2 hP]
    exact ⟨A', c', rfl, h3, hu⟩
end Go.Proofs.YtacbjbnocepnaaaGreatDoor
namespace Go.Proofs.YtacbjbnocepnaaaGreatDoor
open Go.RowKit Fm
end Go.Proofs.YtacbjbnocepnaaaGreatDoor
namespace Go.Proofs.YtacbjbnocepnaaaGreatDoor
open Go.RowKit Fm
end Go.Proofs.YtacbjbnocepnaaaGreatDoor

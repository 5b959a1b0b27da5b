/- Walks of a law. -/
import Derived.Test.YtgcmogldiahdpaaGreatDoorGTxt9
import Derived.Deep.RegionWith
import Derived.Deep.CutBlock
namespace Go.Proofs.YtgcmogldiahdpaaGreatDoor
open Go.RowKit Fm
theorem hasLow_take (t : List UInt8) (k : Nat) (hk : k < t.length) (h : (t.take k).all notSl = true) (hx : t[k] = 47) : topOf t = t.take k ∧ lowOf t = t.drop (k + 1) := by
  have e : t = t.take k ++ 47 :: t.drop (k + 1) := by
    rw [← hx, List.getElem_cons_drop, List.take_append_drop]
  obtain ⟨h1, h2⟩ := takeWhile_stop (t.take k) (t.drop (k + 1)) h
  rw [← e] at h1 h2
  have e3 : hasLow t = true := by
    unfold hasLow
    rw [e, List.all_append, List.all_cons, show notSl 47 = false from rfl]
    simp
  refine ⟨h1, ?_⟩
  unfold lowOf
  rw [e3, if_pos rfl, h2]
  rfl
theorem notSl_next (t : List UInt8) (k : Nat) (hk : k < t.length) (h : (t.take k).all notSl = true) (hx : t[k] ≠ 47) : (t.take (k + 1)).all notSl = true := by
  rw [List.take_succ_eq_append_getElem hk, List.all_append, h]
  unfold notSl
  simp [hx]
end Go.Proofs.YtgcmogldiahdpaaGreatDoor

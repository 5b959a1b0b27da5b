/- Contract of the bound of the statements of forms. -/
import Derived.Test.YtgcmogldiahdpaaGreatDoorQHJ
namespace Go.Proofs.YtgcmogldiahdpaaGreatDoor
open Go.RowKit Fm
set_option maxHeartbeats 1000000 in
set_option maxRecDepth 10000 in
theorem few_all (A : Option Addr) (c : Nat) (fs : List (List Int × Int)) (w : World) (hn : fs.length ≤ 9223372036854775807) (hr : RdE eltForm w A fs) :
    Calls Tryz.prog 16 #[.slice A fs.length c] w fun e w' => e = .returned (.bool (fewF fs)) ∧ Up w w' := by
  go_enter Tryz.func16, Tryz.ntmps16
  go_wp2
  go_loopw [7] (fun i wr => ∃ k : Nat, k ≤ fs.length ∧ i = .int .i64 k ∧ Hid ((fs.take k).all (fun f => decide (f.1.length ≤ 40)) = true) ∧ Hid (Up w wr)) (fun i _ => fs.length - (intOf i).toNat)
  case atStart => exact ⟨0, by omega, rfl, Lib.hid rfl, Lib.hid (Up.refl _)⟩
  case round =>
    obtain ⟨k, hk, rfl, HK, HU⟩ := hrel
    by_cases hkl : k < fs.length
    · obtain ⟨b, off, B, c', rfl, hbb, c0, c1, h3, h4, h5⟩ := (hr.up HU.out).f hkl
      have HNEXT : Hid ((fs.take (k + 1)).all (fun f => decide (f.1.length ≤ 40)) = decide (fs[k].1.length ≤ 40)) := Lib.hid (by
        rw [List.take_succ_eq_append_getElem hkl, List.all_append, HK.out]; simp)
      have HFALSE : Hid (¬ fs[k].1.length ≤ 40 → fewF fs = false) := Lib.hid (fun h => by
        unfold fewF
        rw [Bool.and_eq_false_iff]
        left
        rw [List.all_eq_false]
        exact ⟨fs[k], List.getElem_mem hkl, by simp; omega⟩)
      have hml : fs[k].1.length ≤ maxLen := Nat.le_trans h3 h4
      unfold maxLen at hml
      generalize fs[k] = f at *
      clear h3 h4 h5 hr
      have HUY := Lib.hid (Up.alloc wr (.cells #[.slice B f.1.length c', .int .i64 f.2] 33))
      by_cases h40 : f.1.length ≤ 40
      · have i0 : ¬ (40 : Int) < (f.1.length : Int) := by omega
        have HN2 : Hid ((fs.take (k + 1)).all (fun f => decide (f.1.length ≤ 40)) = true) := Lib.hid (by rw [HNEXT.out]; simp [h40])
        clear HNEXT HFALSE h40
        go_wp2
        exact ⟨⟨k + 1, by omega, by simp, HN2, Lib.hid (HU.out.trans HUY.out)⟩, by simp [intOf]; omega⟩
      · have i0 : (40 : Int) < (f.1.length : Int) := by omega
        have HF := Lib.hid (HFALSE.out h40)
        clear HNEXT HFALSE h40
        go_wp2
        go_ret
        exact ⟨by rw [HF.out]; rfl, HU.out.trans HUY.out⟩
    · have HA2 : Hid (fewF fs = decide (fs.length < 140)) := Lib.hid (by
        have := HK.out
        rw [List.take_of_length_le (by omega)] at this
        unfold fewF
        rw [this]; rfl)
      by_cases h140 : fs.length < 140
      · have i0 : (fs.length : Int) < 140 := by omega
        have HB : Hid (fewF fs = true) := Lib.hid (by rw [HA2.out]; simp [h140])
        clear HA2 h140
        go_wp2
        go_ret
        exact ⟨by rw [HB.out]; rfl, HU.out⟩
      · have i0 : ¬ (fs.length : Int) < 140 := by omega
        have HB : Hid (fewF fs = false) := Lib.hid (by rw [HA2.out]; simp [h140])
        clear HA2 h140
        go_wp2
        go_ret
        exact ⟨by rw [HB.out]; rfl, HU.out⟩
end Go.Proofs.YtgcmogldiahdpaaGreatDoor

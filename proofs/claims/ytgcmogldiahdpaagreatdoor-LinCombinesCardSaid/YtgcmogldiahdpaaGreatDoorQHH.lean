/- Contract of the coefficients of a form. -/
import Derived.Test.YtgcmogldiahdpaaGreatDoorQHG
import Derived.Test.YtgcmogldiahdpaaGreatDoorQGS2
import Derived.ArgAppend
namespace Go.Proofs.YtgcmogldiahdpaaGreatDoor
open Go.RowKit Fm
theorem rowF_at {f : List Int × Int} {i : Nat} (hi : i < f.1.length) : (rowF f)[i]'(by simp [rowF]; omega) = f.1[i] := by simp [rowF, List.getElem_append_left hi]
theorem rowF_last (f : List Int × Int) : (rowF f)[f.1.length]'(by simp [rowF]) = f.2 := by simp [rowF]
set_option maxHeartbeats 1000000 in
set_option maxRecDepth 10000 in
theorem linAt_any (A : Option Addr) (c i : Nat) (f : List Int × Int) (w : World) (hi : i < (rowF f).length) (hr : RdI w A f.1) :
    Calls Tryz.prog 73 #[.agg #[.slice A f.1.length c, .int .i64 f.2], .int .i64 i] w fun e w' => e = .returned (.agg #[.int .i64 (rowF f)[i], .int .i64 1]) ∧ Up w w' := by
  have HC := Lib.hid (CellF.new w A f.1.length c f.2)
  have hi2 : i ≤ f.1.length := by simp [rowF] at hi; omega
  have hcn := fun x => (CellN.new (w.alloc (.cells #[.slice A f.1.length c, .int .i64 f.2] 33)) x 1).facts
  simp only [size_alloc] at hcn
  have HCN := Lib.hid hcn
  clear hcn
  have HU := Lib.hid (fun x : Int => (Up.alloc w (.cells #[.slice A f.1.length c, .int .i64 f.2] 33)).trans (Up.alloc _ (.cells #[.int .i64 x, .int .i64 1] 23)))
  by_cases he : i = f.1.length
  · subst he
    have HE := Lib.hid (rowF_last f)
    go_enter Tryz.func73, Tryz.ntmps73
    go_wp2
    obtain ⟨z0, z1, -, -, -⟩ := HCN.out f.2
    refine bodyPost_ret (by simp [results, Tryz.results73, go_sem, z0, z1]; try rfl) rfl ?_
    exact ⟨by rw [HE.out], HU.out _⟩
  · have hlt : i < f.1.length := by omega
    have hne : ((i : Int) == (f.1.length : Int)) = false := by simp; omega
    have HE := Lib.hid (rowF_at hlt)
    obtain ⟨b, off, rfl, hbb, c0⟩ := hr.at_ hlt
    have c1 := (Up.alloc w (.cells #[.slice (some ⟨b, off, none⟩) f.1.length c, .int .i64 f.2] 33)).cells.1 _ (off + i) hbb
    rw [c0] at c1
    have c2 := ((Up.alloc w (.cells #[.slice (some ⟨b, off, none⟩) f.1.length c, .int .i64 f.2] 33)).trans (Up.alloc _ (.cells #[.int .i64 0, .int .i64 0] 23))).cells.1 _ (off + i) hbb
    rw [c0] at c2
    have i0 : (0 : Int) ≤ (i : Int) := by omega
    have i1 : (i : Int) < (f.1.length : Int) := by omega
    generalize f.1[i] = y at *
    clear he
    go_enter Tryz.func73, Tryz.ntmps73
    go_wp2
    obtain ⟨z0, z1, -, -, -⟩ := HCN.out y
    refine bodyPost_ret (by simp [results, Tryz.results73, go_sem, z0, z1]; try rfl) rfl ?_
    exact ⟨by rw [HE.out], HU.out _⟩
end Go.Proofs.YtgcmogldiahdpaaGreatDoor

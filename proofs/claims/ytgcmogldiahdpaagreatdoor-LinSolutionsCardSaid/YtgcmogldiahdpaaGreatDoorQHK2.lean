/- The value of a valid form for a valid point, in the reference implementation. -/
import Derived.Test.YtgcmogldiahdpaaGreatDoorQHK
import Derived.Test.YtgcmogldiahdpaaGreatDoorQHG
namespace Go.Proofs.YtgcmogldiahdpaaGreatDoor
open Go.RowKit Fm
theorem refEval_row (f : List Int × Int) (xs : List (Int × Int)) (n : Nat) (hn : n ≤ 8) (hfl : f.1.length = n) (hxl : xs.length = n) (hl1 : f.1.all limI = true) (hl2 : limI f.2 = true) (hok : okAll xs = true) (W0 W1 W : World) (v : Value) (A1 : Option Addr) (c1 : Nat) (hu : Up W1 W) (hrow : RowQ W0 W1 v f.1 f.2) (hq : RdE eltQ W A1 (ratsOf xs)) :
    Calls Tryz.prog 44 #[v, .slice A1 (ratsOf xs).length c1] W fun e w' => ∃ v, e = .returned v ∧ RQ w' v (valQ f xs) ∧ Up W w' := by
  have hlen : f.1.length = (ratsOf xs).length := by unfold ratsOf; rw [List.length_map, hfl, hxl]
  obtain ⟨A2, c2, s, b, A3, n3, c3, rfl, -, -, h1, h2, -⟩ := hrow
  rw [← evalQ_val f xs (by rw [hfl, hxl])]
  refine refEval_any A2 A3 A1 c2 c3 n3 c1 s b f.1 f.2 (ratsOf xs) W hlen (by omega) (h1.up hu) (h2.up hu) hq 20 (by omega) (by omega) (fun z hz => ?_) (fun q hq => ?_) (fun k hk => ?_)
  · rw [List.all_eq_true] at hl1
    have := hl1 z hz
    simp only [limI, decide_eq_true_eq] at this
    exact (int_QB (by omega) (by omega)).mono (by omega)
  · unfold ratsOf at hq
    obtain ⟨p, hp1, rfl⟩ := List.mem_map.1 hq
    unfold okAll at hok
    rw [List.all_eq_true] at hok
    exact (ok_QB (hok p hp1)).mono (by omega)
  · exact evalQ_QB f.1 f.2 xs (by rw [hfl, hxl]) (by omega) hl1 hl2 hok k hk
end Go.Proofs.YtgcmogldiahdpaaGreatDoor

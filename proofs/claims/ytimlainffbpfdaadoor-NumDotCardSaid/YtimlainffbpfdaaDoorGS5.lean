/- The law for all lists. -/
import Derived.Test.YtimlainffbpfdaaDoorGS3
import Derived.Test.YtimlainffbpfdaaDoorGS4
namespace Go.Proofs.YtimlainffbpfdaaDoor
open Go.RowKit Fm

theorem limited_q (u : Value) (q : Rat) (W : World) (h : FV W u q) :
    Calls Tryd.prog 27 #[u] W fun e w' => e = .returned (.tuple #[.agg #[.int .i64 (numX true q), .int .i64 (numY true q)], .int .i64 (numE true q)]) ∧ Up W w' := by
  have := limited_any u q W h
  simpa only [numX, numY, numE, Bool.true_and, if_true] using this

set_option maxRecDepth 10000 in
theorem numDotLaw_any (A B : Option Addr) (c d : Nat) (l m : List (Int × Int)) (w : World) (hc : l.length ≤ c) (hcm : c ≤ maxLen) (hd : m.length ≤ d) (hdm : d ≤ maxLen) (hr : RdN w A l) (hs : RdN w B m)
    (hx : ∀ p, p ∈ l → Rng p.1 p.2) (hy : ∀ p, p ∈ m → Rng p.1 p.2) (ht : Tab w) :
    Calls Tryd.prog 6 #[.slice A l.length c, .slice B m.length d] w fun e w' => e = .returned (.bool true) ∧ Up w w' := by
  have HW := Lib.hid (fun W (hu : Up w W) => awake_any W (ht.up hu))
  by_cases h200 : 200 < l.length ∨ 200 < m.length
  · exact dot_long A B l.length m.length c d w h200 (len_le hc hcm) (len_le hd hdm) HW
  · have hl : l.length ≤ 200 := by omega
    have hm : m.length ≤ 200 := by omega
    have HN1 := Lib.hid (fun W (hu : Up w W) => numAllValid_any A c l W hc hcm (hr.up hu) hx (ht.up hu))
    have HN2 := Lib.hid (fun W (hu : Up w W) => numAllValid_any B d m W hd hdm (hs.up hu) hy (ht.up hu))
    have HR1 := Lib.hid (fun W (hu : Up w W) => refAll_any A c l W hc hcm (hr.up hu) hx)
    have HR2 := Lib.hid (fun W (hu : Up w W) => refAll_any B d m W hd hdm (hs.up hu) hy)
    have HS1 := Lib.hid (fun W B' d' (hu : Up w W) (k : RdN W B' l) => refSame_any A B' c d' l W hc hcm (hr.up hu) k)
    have HS2 := Lib.hid (fun W B' d' (hu : Up w W) (k : RdN W B' m) => refSame_any B B' d d' m W hd hdm (hs.up hu) k)
    have main := fun X Y E HR HN => dot_main A B c d l m X Y E w hl hm hr hs HR HN HS1 HS2 HW
    rcases hkl : okAll l with _ | _
    · rw [hkl] at HN1 HR1
      exact main 0 0 1 (Lib.hid fun W hu => refDot_arg1 A B c d l m W (Lib.hid fun W' hu' => HR1.out W' (hu.trans hu'))) (Lib.hid fun W hu => numDot_arg1 A B c d l m W (Lib.hid fun W' hu' => HN1.out W' (hu.trans hu')))
    · rw [hkl] at HN1 HR1
      rcases hkm : okAll m with _ | _
      · rw [hkm] at HN2 HR2
        exact main 0 0 1 (Lib.hid fun W hu => refDot_arg2 A B c d l m W (Lib.hid fun W' hu' => HR1.out W' (hu.trans hu')) (Lib.hid fun W' hu' => HR2.out W' (hu.trans hu')))
          (Lib.hid fun W hu => numDot_arg2 A B c d l m W (Lib.hid fun W' hu' => HN1.out W' (hu.trans hu')) (Lib.hid fun W' hu' => HN2.out W' (hu.trans hu')))
      · rw [hkm] at HN2 HR2
        by_cases hlm : l.length = m.length
        · refine main (numX true (dotQ l m)) (numY true (dotQ l m)) (numE true (dotQ l m)) (Lib.hid fun W hu => ?_) (Lib.hid fun W hu => ?_)
          · have HR2' : Hid (∀ W', Up W W' → Calls Tryd.prog 44 #[.slice B l.length d] W' fun e w' => e = .returned (.bool true) ∧ Up W' w') := Lib.hid (by
              rw [hlm]; exact fun W' hu' => HR2.out W' (hu.trans hu'))
            have := refDot_ok A B c d l m _ _ _ W hlm (by omega) (hr.up hu) (hs.up hu) hkl hkm (Lib.hid fun W' hu' => HR1.out W' (hu.trans hu')) HR2' (Lib.hid fun W' u k => refNum_q u _ W' k)
            rw [hlm] at this ⊢
            exact this
          · have HN2' : Hid (∀ W', Up W W' → Calls Tryd.prog 53 #[.slice B l.length d] W' fun e w' => e = .returned (.bool true) ∧ Up W' w') := Lib.hid (by
              rw [hlm]; exact fun W' hu' => HN2.out W' (hu.trans hu'))
            have := numDot_ok A B c d l.length (dotQ l m) _ _ _ W (Lib.hid fun W' hu' => HN1.out W' (hu.trans hu')) HN2' (Lib.hid fun W' hu' => products_any l.length A B c d l m W' (Nat.le_refl _) hlm hc (by omega) (by omega) (hr.up (hu.trans hu')) (hs.up (hu.trans hu')) hkl hkm (ht.up (hu.trans hu'))) (Lib.hid fun W' u k => limited_q u _ W' k)
            rw [hlm] at this ⊢
            exact this
        · exact main 0 0 2 (Lib.hid fun W hu => refDot_dim A B c d l m W (Lib.hid fun W' hu' => HR1.out W' (hu.trans hu')) (Lib.hid fun W' hu' => HR2.out W' (hu.trans hu')) hlm)
            (Lib.hid fun W hu => numDot_dim A B c d l m W (Lib.hid fun W' hu' => HN1.out W' (hu.trans hu')) (Lib.hid fun W' hu' => HN2.out W' (hu.trans hu')) hlm)
end Go.Proofs.YtimlainffbpfdaaDoor

/- Contract of the reference implementation's sum of products. -/
import Derived.Test.YtimlainffbpfdaaDoorGS2
import Derived.Deep.RegionWith
namespace Go.Proofs.YtimlainffbpfdaaDoor
open Go.RowKit Fm

theorem dotQ_next (l m : List (Int × Int)) (k : Nat) (hl : k < l.length) (hm : k < m.length) (h : l.length = m.length) :
    dotQ (l.take (k + 1)) (m.take (k + 1)) = dotQ (l.take k) (m.take k) + ratOf l[k].1 l[k].2 * ratOf m[k].1 m[k].2 := by
  rw [List.take_succ_eq_append_getElem hl, List.take_succ_eq_append_getElem hm, dotQ_append _ _ _ _ (by rw [List.length_take, List.length_take, h])]
  simp [dotQ, Rat.add_zero]

theorem two_up {w w' : World} (hu : Up w w') {b o1 o2 : Nat} {v1 v2 : Value} (hb : b < w.heap.size) (h1 : w.cell? ⟨b, o1, none⟩ = some v1) (h2 : w.cell? ⟨b, o2, none⟩ = some v2) : w'.cell? ⟨b, o1, none⟩ = some v1 ∧ w'.cell? ⟨b, o2, none⟩ = some v2 :=
  ⟨(hu.cells.1 b _ hb).trans h1, (hu.cells.1 b _ hb).trans h2⟩
theorem CellN.far6 {w : World} {g g' : Nat} {x y : Int} (h : CellN w g x y) (hne : g ≠ g') (u1 u2 u3 u4 u5 u6 : Value) : CellN (put6 w g' u1 u2 u3 u4 u5 u6) g x y := by
  unfold CellN at *
  rw [Below.heap_setCell _ ⟨g', 5, none⟩ u6 g hne, Below.heap_setCell _ ⟨g', 4, none⟩ u5 g hne, Below.heap_setCell _ ⟨g', 3, none⟩ u4 g hne, Below.heap_setCell _ ⟨g', 2, none⟩ u3 g hne, Below.heap_setCell _ ⟨g', 1, none⟩ u2 g hne, Below.heap_setCell _ ⟨g', 0, none⟩ u1 g hne]
  exact h

/-- The loop's state: the sum so far lies in block g. -/
def DotSt (w : World) (g : Nat) (q : Rat) (wr : World) : Prop :=
  ∃ (s s2 : Int) (b b2 : Bool) (A A2 : Option Addr) (n c n2 c2 : Nat), CellR wr g s b (.slice A n c) s2 b2 (.slice A2 n2 c2) ∧ RQ wr (.agg #[.int .i64 s, .bool b, .slice A n c, .int .i64 s2, .bool b2, .slice A2 n2 c2]) q ∧ CellN wr w.heap.size 0 0 ∧ Up w wr

set_option maxHeartbeats 8000000 in
set_option maxRecDepth 10000 in
theorem refDot_ok (A B : Option Addr) (c d : Nat) (l m : List (Int × Int)) (X Y E : Int) (w : World) (hlm : l.length = m.length) (hn : l.length ≤ 1000) (hr : RdN w A l) (hs : RdN w B m) (hl : okAll l = true) (hm : okAll m = true)
    (HV1 : Hid (∀ W, Up w W → Calls Tryd.prog 44 #[.slice A l.length c] W fun e w' => e = .returned (.bool true) ∧ Up W w'))
    (HV2 : Hid (∀ W, Up w W → Calls Tryd.prog 44 #[.slice B l.length d] W fun e w' => e = .returned (.bool true) ∧ Up W w'))
    (HL : Hid (∀ W u, RQ W u (dotQ l m) → Calls Tryd.prog 30 #[u] W fun e w' => e = .returned (.tuple #[.agg #[.int .i64 X, .int .i64 Y], .int .i64 E]) ∧ Up W w')) :
    Calls Tryd.prog 20 #[.slice A l.length c, .slice B l.length d] w fun e w' => e = .returned (.tuple #[.agg #[.int .i64 X, .int .i64 Y], .int .i64 E]) ∧ Up w w' := by
  have HW := Lib.hid (fun W => refWhole_q 0 W (by omega) (by omega))
  have HLM := Lib.hid hlm
  have HOK := Lib.hid (And.intro hl hm)
  clear hlm hl hm
  have hz3 : ((l.length : Int) != (l.length : Int)) = false := by simp
  go_enter Tryd.func20, Tryd.ntmps20
  go_wp2_with fail
  have HR := Lib.hid (CellN.new w 0 0)
  have HU := Lib.hid (Up.alloc w (.cells #[.int .i64 0, .int .i64 0] 23))
  generalize w.alloc (.cells #[.int .i64 0, .int .i64 0] 23) = wB at *
  refine Calls.mono (HV1.out _ (by (repeat (first | exact Below.refl _ _ | exact Go.RowKit.Hid.out (by assumption) | refine Up.trans ?_ (Up.drew _) | refine Up.trans ?_ (Up.drewN _ _) | refine Up.trans ?_ (Up.alloc _ _) | refine Up.trans ?_ (Go.RowKit.Hid.out (by assumption)))))) ?_
  rintro e w1 ⟨rfl, hu⟩
  have HU1 := Lib.hid hu
  clear hu
  go_wp2_with fail
  refine Calls.mono (HV2.out _ (by (repeat (first | exact Below.refl _ _ | exact Go.RowKit.Hid.out (by assumption) | refine Up.trans ?_ (Up.drew _) | refine Up.trans ?_ (Up.drewN _ _) | refine Up.trans ?_ (Up.alloc _ _) | refine Up.trans ?_ (Go.RowKit.Hid.out (by assumption)))))) ?_
  rintro e w2 ⟨rfl, hu⟩
  have HU2 := Lib.hid hu
  clear hu
  go_wp2_with fail
  refine Calls.mono (HW.out _) ?_
  rintro e w3 ⟨v, rfl, hv, hu⟩
  have HU3 := Lib.hid hu
  have HV3 := Lib.hid hv
  obtain ⟨s5, s6, g5, g6, A5, A6, n5, k5, n6, k6, rfl, -⟩ := hv
  clear hu
  go_wp2_with fail
  obtain ⟨wC, hwC⟩ : ∃ wC, wC = w3.alloc (.cells #[.int .i64 s5, .bool g5, .slice A5 n5 k5, .int .i64 s6, .bool g6, .slice A6 n6 k6] 38) := ⟨_, rfl⟩
  have HUC := Lib.hid (show Up w3 wC by rw [hwC]; exact Up.alloc _ _)
  have HST : Hid (DotSt w w3.heap.size (dotQ (l.take 0) (m.take 0)) wC) := Lib.hid ⟨_, _, _, _, _, _, _, _, _, _, by rw [hwC]; exact CellR.new _ _ _ _ _ _ _, HV3.out.up HUC.out, HR.out.up (by (repeat (first | exact Below.refl _ _ | exact Go.RowKit.Hid.out (by assumption) | refine Up.trans ?_ (Up.drew _) | refine Up.trans ?_ (Up.drewN _ _) | refine Up.trans ?_ (Up.alloc _ _) | refine Up.trans ?_ (Go.RowKit.Hid.out (by assumption))))), by (repeat (first | exact Below.refl _ _ | exact Go.RowKit.Hid.out (by assumption) | refine Up.trans ?_ (Up.drew _) | refine Up.trans ?_ (Up.drewN _ _) | refine Up.trans ?_ (Up.alloc _ _) | refine Up.trans ?_ (Go.RowKit.Hid.out (by assumption))))⟩
  have hg3 : w.heap.size < w3.heap.size := Nat.lt_of_lt_of_le HR.out.lt (show Up wB w3 by (repeat (first | exact Below.refl _ _ | exact Go.RowKit.Hid.out (by assumption) | refine Up.trans ?_ (Up.drew _) | refine Up.trans ?_ (Up.drewN _ _) | refine Up.trans ?_ (Up.alloc _ _) | refine Up.trans ?_ (Go.RowKit.Hid.out (by assumption))))).size
  rw [← hwC]
  clear hwC HV3
  go_loopw [28] (fun i wr => ∃ k : Nat, k ≤ l.length ∧ i = .int .i64 k ∧ Hid (DotSt w w3.heap.size (dotQ (l.take k) (m.take k)) wr)) (fun i _ => l.length - (intOf i).toNat)
  case atStart => exact ⟨0, by omega, rfl, HST⟩
  case round =>
    obtain ⟨k, hk, rfl, HS⟩ := hrel
    clear HST
    obtain ⟨t5, t6, h5, h6, B5, B6, m5, j5, m6, j6, hcr, hq, hn0, hup⟩ := HS.out
    have HCR := Lib.hid hcr
    have HQ := Lib.hid hq
    have HN0 := Lib.hid hn0
    have HUP := Lib.hid hup
    clear hcr hq hn0 hup HS HUC HU1 HU2 HU3 HR HU
    by_cases hkl : k < l.length
    · have hkm : k < m.length := by have := HLM.out; omega
      obtain ⟨b, off, rfl, hbb, hcell⟩ := (hr.up HUP.out).at_ hkl
      obtain ⟨b2, off2, rfl, hbb2, hcell2⟩ := (hs.up HUP.out).at_ hkm
      have k1 := okAll_get HOK.out.1 hkl
      have k2 := okAll_get HOK.out.2 hkm
      have hnext := dotQ_next l m k hkl hkm HLM.out
      have hQ1 := dotQ_QB (l.take k) (m.take k) (by rw [List.length_take, List.length_take, HLM.out]) (okAll_take k HOK.out.1) (okAll_take k HOK.out.2)
      rw [List.length_take] at hQ1
      have HRA := Lib.hid (hr.up HUP.out)
      have HRB := Lib.hid (hs.up HUP.out)
      obtain ⟨x, hxx⟩ : ∃ x, x = l[k].1 := ⟨_, rfl⟩
      obtain ⟨y, hyy⟩ : ∃ y, y = l[k].2 := ⟨_, rfl⟩
      obtain ⟨x2, hxx2⟩ : ∃ x, x = m[k].1 := ⟨_, rfl⟩
      obtain ⟨y2, hyy2⟩ : ∃ y, y = m[k].2 := ⟨_, rfl⟩
      rw [← hxx, ← hyy] at hcell k1 hnext
      rw [← hxx2, ← hyy2] at hcell2 k2 hnext
      have HT1 := Lib.hid (fun W => refTo_q x y W k1)
      have HT2 := Lib.hid (fun W => refTo_q x2 y2 W k2)
      have HTM := Lib.hid (fun W u1 u2 (h1 : RQ W u1 (ratOf x y)) (h2 : RQ W u2 (ratOf x2 y2)) => refRatTimes_q u1 u2 _ _ 3 3 W h1 h2 (ok_QB k1) (ok_QB k2) (by omega))
      have HPL := Lib.hid (fun W u1 u2 (h1 : RQ W u1 (dotQ (l.take k) (m.take k))) (h2 : RQ W u2 (ratOf x y * ratOf x2 y2)) => refRatPlus_q u1 u2 _ _ (8 * 1000 + 1) 6 W h1 h2 (hQ1.mono (by omega)) ((ok_QB k1).mul (ok_QB k2) (by omega)) (by omega))
      rw [← hnext] at HPL
      clear hxx hyy hxx2 hyy2 hnext hQ1 k1 k2
      generalize hqe : dotQ (l.take (k + 1)) (m.take (k + 1)) = q' at *
      have HQE := Lib.hid hqe
      clear hqe
      generalize dotQ (l.take k) (m.take k) = q at *
      generalize ratOf x y * ratOf x2 y2 = qp at *
      generalize ratOf x y = qa at *
      generalize ratOf x2 y2 = qb at *
      obtain ⟨c0, c1⟩ := hcell
      obtain ⟨d0, d1⟩ := hcell2
      obtain ⟨a0, a1, a2, a3, a4, a5, la⟩ := HCR.out.facts
      have i0 : (0 : Int) ≤ (k : Int) := by omega
      have i1 : (k : Int) < (l.length : Int) := by omega
      have HC0 := Lib.hid c0
      have HC1 := Lib.hid c1
      have HD0 := Lib.hid d0
      have HD1 := Lib.hid d1
      go_upto_region 9 with fail
      go_region_with
        ((first
          | (go_at_call 51
             refine Calls.mono (HPL.out _ _ _ (HQ.out.up (by (repeat (first | exact Below.refl _ _ | exact Go.RowKit.Hid.out (by assumption) | refine Up.trans ?_ (Up.drew _) | refine Up.trans ?_ (Up.drewN _ _) | refine Up.trans ?_ (Up.alloc _ _) | refine Up.trans ?_ (Go.RowKit.Hid.out (by assumption)))))) (HVw7.out.up (by (repeat (first | exact Below.refl _ _ | exact Go.RowKit.Hid.out (by assumption) | refine Up.trans ?_ (Up.drew _) | refine Up.trans ?_ (Up.drewN _ _) | refine Up.trans ?_ (Up.alloc _ _) | refine Up.trans ?_ (Go.RowKit.Hid.out (by assumption))))))) ?_
             rintro e w8 ⟨v, rfl, hv, hu⟩
             have HUw8 := Lib.hid hu
             have HVw8 := Lib.hid hv
             obtain ⟨p1, p2, p3, p4, p5, p6, p7, p8, p9, p0, rfl, -⟩ := hv
             clear hu
             have HZ := Lib.hid (HCR.out.up (w' := w8) (by (repeat (first | exact Below.refl _ _ | exact Go.RowKit.Hid.out (by assumption) | refine Up.trans ?_ (Up.drew _) | refine Up.trans ?_ (Up.drewN _ _) | refine Up.trans ?_ (Up.alloc _ _) | refine Up.trans ?_ (Go.RowKit.Hid.out (by assumption))))))
             obtain ⟨a0, a1, a2, a3, a4, a5, la⟩ := HZ.out.facts
             obtain ⟨f0, f1, f2, f3, f4, f5⟩ := HZ.out.frozen6)
          | (go_at_call 52
             refine Calls.mono (HTM.out _ _ _ (HVw5.out.up (by (repeat (first | exact Below.refl _ _ | exact Go.RowKit.Hid.out (by assumption) | refine Up.trans ?_ (Up.drew _) | refine Up.trans ?_ (Up.drewN _ _) | refine Up.trans ?_ (Up.alloc _ _) | refine Up.trans ?_ (Go.RowKit.Hid.out (by assumption)))))) (HVw6.out.up (by (repeat (first | exact Below.refl _ _ | exact Go.RowKit.Hid.out (by assumption) | refine Up.trans ?_ (Up.drew _) | refine Up.trans ?_ (Up.drewN _ _) | refine Up.trans ?_ (Up.alloc _ _) | refine Up.trans ?_ (Go.RowKit.Hid.out (by assumption))))))) ?_
             rintro e w7 ⟨v, rfl, hv, hu⟩
             have HUw7 := Lib.hid hu
             have HVw7 := Lib.hid hv
             clear hu hv
             obtain ⟨c0, c1⟩ := two_up (show Up wr w7 by (repeat (first | exact Below.refl _ _ | exact Go.RowKit.Hid.out (by assumption) | refine Up.trans ?_ (Up.drew _) | refine Up.trans ?_ (Up.drewN _ _) | refine Up.trans ?_ (Up.alloc _ _) | refine Up.trans ?_ (Go.RowKit.Hid.out (by assumption))))) hbb HC0.out HC1.out
             obtain ⟨d0, d1⟩ := two_up (show Up wr w7 by (repeat (first | exact Below.refl _ _ | exact Go.RowKit.Hid.out (by assumption) | refine Up.trans ?_ (Up.drew _) | refine Up.trans ?_ (Up.drewN _ _) | refine Up.trans ?_ (Up.alloc _ _) | refine Up.trans ?_ (Go.RowKit.Hid.out (by assumption))))) hbb2 HD0.out HD1.out
             obtain ⟨a0, a1, a2, a3, a4, a5, la⟩ := (HCR.out.up (w' := w7) (by (repeat (first | exact Below.refl _ _ | exact Go.RowKit.Hid.out (by assumption) | refine Up.trans ?_ (Up.drew _) | refine Up.trans ?_ (Up.drewN _ _) | refine Up.trans ?_ (Up.alloc _ _) | refine Up.trans ?_ (Go.RowKit.Hid.out (by assumption)))))).facts)
          | (have HGUARD := HVw5; go_at_call 18
             refine Calls.mono (HT2.out _) ?_
             rintro e w6 ⟨v, rfl, hv, hu⟩
             have HUw6 := Lib.hid hu
             have HVw6 := Lib.hid hv
             clear hu hv
             obtain ⟨c0, c1⟩ := two_up (show Up wr w6 by (repeat (first | exact Below.refl _ _ | exact Go.RowKit.Hid.out (by assumption) | refine Up.trans ?_ (Up.drew _) | refine Up.trans ?_ (Up.drewN _ _) | refine Up.trans ?_ (Up.alloc _ _) | refine Up.trans ?_ (Go.RowKit.Hid.out (by assumption))))) hbb HC0.out HC1.out
             obtain ⟨d0, d1⟩ := two_up (show Up wr w6 by (repeat (first | exact Below.refl _ _ | exact Go.RowKit.Hid.out (by assumption) | refine Up.trans ?_ (Up.drew _) | refine Up.trans ?_ (Up.drewN _ _) | refine Up.trans ?_ (Up.alloc _ _) | refine Up.trans ?_ (Go.RowKit.Hid.out (by assumption))))) hbb2 HD0.out HD1.out
             obtain ⟨a0, a1, a2, a3, a4, a5, la⟩ := (HCR.out.up (w' := w6) (by (repeat (first | exact Below.refl _ _ | exact Go.RowKit.Hid.out (by assumption) | refine Up.trans ?_ (Up.drew _) | refine Up.trans ?_ (Up.drewN _ _) | refine Up.trans ?_ (Up.alloc _ _) | refine Up.trans ?_ (Go.RowKit.Hid.out (by assumption)))))).facts)
          | (go_at_call 18
             refine Calls.mono (HT1.out _) ?_
             rintro e w5 ⟨v, rfl, hv, hu⟩
             have HUw5 := Lib.hid hu
             have HVw5 := Lib.hid hv
             clear hu hv
             obtain ⟨c0, c1⟩ := two_up (show Up wr w5 by (repeat (first | exact Below.refl _ _ | exact Go.RowKit.Hid.out (by assumption) | refine Up.trans ?_ (Up.drew _) | refine Up.trans ?_ (Up.drewN _ _) | refine Up.trans ?_ (Up.alloc _ _) | refine Up.trans ?_ (Go.RowKit.Hid.out (by assumption))))) hbb HC0.out HC1.out
             obtain ⟨d0, d1⟩ := two_up (show Up wr w5 by (repeat (first | exact Below.refl _ _ | exact Go.RowKit.Hid.out (by assumption) | refine Up.trans ?_ (Up.drew _) | refine Up.trans ?_ (Up.drewN _ _) | refine Up.trans ?_ (Up.alloc _ _) | refine Up.trans ?_ (Go.RowKit.Hid.out (by assumption))))) hbb2 HD0.out HD1.out
             obtain ⟨a0, a1, a2, a3, a4, a5, la⟩ := (HCR.out.up (w' := w5) (by (repeat (first | exact Below.refl _ _ | exact Go.RowKit.Hid.out (by assumption) | refine Up.trans ?_ (Up.drew _) | refine Up.trans ?_ (Up.drewN _ _) | refine Up.trans ?_ (Up.alloc _ _) | refine Up.trans ?_ (Go.RowKit.Hid.out (by assumption)))))).facts)))
      all_goals
        have HSN : Hid (DotSt w w3.heap.size q' (put6 w8 w3.heap.size (.int .i64 p1) (.bool p3) (.slice p5 p7 p8) (.int .i64 p2) (.bool p4) (.slice p6 p9 p0))) := Lib.hid ⟨_, _, _, _, _, _, _, _, _, _, HZ.out.set _ _ _ _ _ _, HVw8.out.put6 HZ.out _ _ _ _ _ _, (HN0.out.up (w' := w8) (by (repeat (first | exact Below.refl _ _ | exact Go.RowKit.Hid.out (by assumption) | refine Up.trans ?_ (Up.drew _) | refine Up.trans ?_ (Up.drewN _ _) | refine Up.trans ?_ (Up.alloc _ _) | refine Up.trans ?_ (Go.RowKit.Hid.out (by assumption)))))).far6 (by omega) _ _ _ _ _ _, Up.put6 (show Up w w8 by (repeat (first | exact Below.refl _ _ | exact Go.RowKit.Hid.out (by assumption) | refine Up.trans ?_ (Up.drew _) | refine Up.trans ?_ (Up.drewN _ _) | refine Up.trans ?_ (Up.alloc _ _) | refine Up.trans ?_ (Go.RowKit.Hid.out (by assumption))))) (by omega) _ _ _ _ _ _⟩
        clear HVw8 HVw7 HVw6 HVw5
        go_wp2
        exact ⟨⟨k + 1, hkl, by simp, by rw [HQE.out]; exact HSN⟩, by simp [intOf]; omega⟩
    · have hkl' : k = l.length := by omega
      subst hkl'
      rw [List.take_of_length_le (Nat.le_refl _), List.take_of_length_le (by rw [HLM.out]; exact Nat.le_refl _)] at HQ
      obtain ⟨a0, a1, a2, a3, a4, a5, la⟩ := HCR.out.facts
      go_wp2_with fail
      refine Calls.mono (HL.out _ _ HQ.out) ?_
      rintro e w9 ⟨rfl, hu⟩
      have HU9 := Lib.hid hu
      clear hu a0 a1 a2 a3 a4 a5 la
      have HR8 := Lib.hid (HN0.out.up HU9.out)
      obtain ⟨r0, r1, g0, g1, lr⟩ := HR8.out.facts
      have HFF := Lib.hid ((HR8.out.set X Y).facts)
      have HUF := Lib.hid ((show Up w w9 by (repeat (first | exact Below.refl _ _ | exact Go.RowKit.Hid.out (by assumption) | refine Up.trans ?_ (Up.drew _) | refine Up.trans ?_ (Up.drewN _ _) | refine Up.trans ?_ (Up.alloc _ _) | refine Up.trans ?_ (Go.RowKit.Hid.out (by assumption))))).stored (show w.heap.size ≤ w.heap.size by omega) (.int .i64 X) (.int .i64 Y))
      go_wp2
      obtain ⟨z0, z1, -, -, -⟩ := HFF.out
      refine bodyPost_ret (by simp [results, Tryd.results20, go_sem, z0, z1]; try rfl) rfl ?_
      exact ⟨rfl, HUF.out⟩
end Go.Proofs.YtimlainffbpfdaaDoor

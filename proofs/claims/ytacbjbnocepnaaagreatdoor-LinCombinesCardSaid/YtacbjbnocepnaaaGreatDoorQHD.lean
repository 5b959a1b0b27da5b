/- Contracts of the package of rows: a row and its divisor. -/
import Derived.Test.YtacbjbnocepnaaaGreatDoorQHC
import Derived.Deep.RegionHeld3
namespace Go.Proofs.YtacbjbnocepnaaaGreatDoor
open Go.RowKit Fm
set_option maxHeartbeats 4000000 in
set_option maxRecDepth 10000 in
theorem rowCancel_any (A B : Option Addr) (c d : Nat) (r p : List Int) (q k l : Nat) (w : World) (hc : r.length ≤ c) (hcm : c ≤ maxLen) (hd : p.length ≤ d) (hdm : d ≤ maxLen) (hn : r.length ≤ 1000000) (hlen : r.length = p.length) (hq : q < r.length)
    (hr : RdZ w A r) (hp : RdZ w B p) (hbr : Bd k r) (hbp : Bd l p) (hk : k + l + 1 ≤ 67108864) (h0 : p.getD q 0 ≠ 0) (ht : Tab w) :
    Calls Tryz.prog 145 #[.slice A r.length c, .slice B p.length d, .int .i64 q] w fun e w' => ∃ v, e = .returned v ∧ RowF w w' v (cancelR r p q) ∧ Up w w' := by
  have hq2 : q < p.length := by omega
  have er : r.getD q 0 = r[q] := by rw [List.getD_eq_getElem?_getD, List.getElem?_eq_getElem hq]; rfl
  have ep : p.getD q 0 = p[q] := by rw [List.getD_eq_getElem?_getD, List.getElem?_eq_getElem hq2]; rfl
  have HE : Hid (cancelR r p q = primR (plusR (timesR (p[q].tdiv (Int.gcd r[q] p[q])) r) (timesR (-(r[q].tdiv (Int.gcd r[q] p[q]))) p))) := Lib.hid (by unfold cancelR; rw [er, ep])
  rw [ep] at h0
  obtain ⟨b, off, s1, B1, m1, k1, rfl, hbb, c0, c1, hz1⟩ := hr.at_ hq
  obtain ⟨b2, off2, s2, B2, m2, k2, rfl, hbb2, d0, d1, hz2⟩ := hp.at_ hq2
  have hx1 : bl r[q] ≤ k := hbr _ (List.getElem_mem hq)
  have hx2 : bl p[q] ≤ l := hbp _ (List.getElem_mem hq2)
  generalize r[q] = x at *
  generalize p[q] = y at *
  have hg0 : ((Int.gcd x y : Nat) : Int) ≠ 0 := by
    intro e; exact h0 (Int.gcd_eq_zero_iff.1 (show Int.gcd x y = 0 by omega)).2
  have HG := Lib.hid (fun W (hu : Up w W) => intGcd_any _ _ x y W (hz1.up hu) (hz2.up hu) (by omega) (by omega) (ht.up hu))
  have HQ1 := Lib.hid (fun W u (hu : Up w W) (hg : IV W u (Int.gcd x y : Nat)) => intQuo_any _ u y _ W (hz2.up hu) hg (by omega) hg0)
  have HQ2 := Lib.hid (fun W u (hu : Up w W) (hg : IV W u (Int.gcd x y : Nat)) => intQuo_any _ u x _ W (hz1.up hu) hg (by omega) hg0)
  have by1 : bl (y.tdiv (Int.gcd x y : Nat)) ≤ l := bl_tdiv hx2
  have bx1 : bl (-(x.tdiv (Int.gcd x y : Nat))) ≤ k := by rw [bl_neg]; exact bl_tdiv hx1
  have HNG := Lib.hid (fun W u (hg : IV W u (x.tdiv (Int.gcd x y : Nat))) => neg_any u _ W hg)
  have HT1 := Lib.hid (fun W u (hu : Up w W) (hg : IV W u (y.tdiv (Int.gcd x y : Nat))) => rowTimes_any _ c r u _ W hc hcm hn (hr.up hu) hg (hbr.mono (by omega)) (by omega))
  have HT2 := Lib.hid (fun W u (hu : Up w W) (hg : IV W u (-(x.tdiv (Int.gcd x y : Nat)))) => rowTimes_any _ d p u _ W hd hdm (by omega) (hp.up hu) hg (hbp.mono (by omega)) (by omega))
  have bt1 : Bd (k + l) (timesR (y.tdiv (Int.gcd x y : Nat)) r) := hbr.times by1 (Nat.le_refl _)
  have bt2 : Bd (k + l) (timesR (-(x.tdiv (Int.gcd x y : Nat))) p) := hbp.times bx1 (by omega)
  have lt1 := timesR_length (y.tdiv (Int.gcd x y : Nat)) r
  have lt2 := timesR_length (-(x.tdiv (Int.gcd x y : Nat))) p
  generalize hT1 : timesR (y.tdiv (Int.gcd x y : Nat)) r = t1 at *
  generalize hT2 : timesR (-(x.tdiv (Int.gcd x y : Nat))) p = t2 at *
  have HPL := Lib.hid (fun W A1 A2 c1 c2 (h1 : t1.length ≤ c1) (h2 : c1 ≤ maxLen) (g1 : RdZ W A1 t1) (g2 : RdZ W A2 t2) => rowPlus_any A1 A2 c1 c2 t1 t2 W h1 h2 (by omega) g1 g2 (by omega) (bt1.mono (by omega)) (bt2.mono (by omega)))
  have bt3 : Bd (k + l + 1) (plusR t1 t2) := bt1.plus bt2 (Nat.le_refl _)
  have lt3 := plusR_length t1 t2 (by omega)
  have HPR := Lib.hid (fun W A1 c1 (hu : Up w W) (h1 : (plusR t1 t2).length ≤ c1) (h2 : c1 ≤ maxLen) (g1 : RdZ W A1 (plusR t1 t2)) => rowPrim_any A1 c1 (plusR t1 t2) W h1 h2 (by omega) g1 (bt3.mono (by omega)) (ht.up hu))
  have i0 : (0 : Int) ≤ (q : Int) := by omega
  have i1 : (q : Int) < (r.length : Int) := by omega
  have i2 : (q : Int) < (p.length : Int) := by omega
  have HC0 := Lib.hid c0
  have HC1 := Lib.hid c1
  have HD0 := Lib.hid d0
  have HD1 := Lib.hid d1
  clear hT1 hT2 bt1 bt2 lt1 lt2 bt3 lt3 by1 bx1 hx1 hx2 hg0 h0 hz1 hz2 hr hp hbr hbp hk ht er ep hcm hdm hc hd
  rw [← hlen] at HT2 ⊢
  clear hlen hq2 i2
  go_enter Tryz.func145, Tryz.ntmps145
  go_upto_region 1 with fail
  have nx1 : (b = w.heap.size) = False := eq_false (by omega)
  have nx2 : (w.heap.size = b) = False := eq_false (by omega)
  have nx3 : (b2 = w.heap.size) = False := eq_false (by omega)
  have nx4 : (w.heap.size = b2) = False := eq_false (by omega)
  go_cut [7] (fun p7 wx => ∃ g7 s7 A7 n7 c7, p7 = .pointer (some ⟨g7, 0, none⟩) ∧ CellZ wx g7 s7 A7 n7 c7 ∧ IV wx (.agg #[.int .i64 s7, .slice A7 n7 c7]) (Int.gcd x y : Nat) ∧ Up w wx)
  case first =>
    go_region_held3 (fun w' => w'.cell? ⟨b, off + q * 2, none⟩ = some (.int .i64 s1) ∧ w'.cell? ⟨b, off + q * 2 + 1, none⟩ = some (.slice B1 m1 k1) ∧ w'.cell? ⟨b2, off2 + q * 2, none⟩ = some (.int .i64 s2) ∧ w'.cell? ⟨b2, off2 + q * 2 + 1, none⟩ = some (.slice B2 m2 k2)) (go_keep)
      ((go_at_call 100
        refine Calls.mono (HG.out _ (by (repeat (first | exact Below.refl _ _ | exact Hid.out (by assumption) | refine Up.trans ?_ (Up.drew _) | refine Up.trans ?_ (Up.drewN _ _) | refine Up.trans ?_ (Up.alloc _ _) | refine Up.trans ?_ (Hid.out (by assumption)))))) ?_
        rintro e w5 ⟨v5, rfl, hv, hu⟩
        try (have HZ : Go.RowKit.Hid (CellZ w5 w.heap.size 0 none 0 0) := CellZ.up (CellZ.new w.drew 0 none 0 0) hu)
        try (obtain ⟨z0, z1, y0, y1, lz⟩ := HZ.out.facts)
        have HUw5 := Lib.hid hu
        obtain ⟨c0, c1⟩ := two_cells (show Up w w5 by (repeat (first | exact Below.refl _ _ | exact Hid.out (by assumption) | refine Up.trans ?_ (Up.drew _) | refine Up.trans ?_ (Up.drewN _ _) | refine Up.trans ?_ (Up.alloc _ _) | refine Up.trans ?_ (Hid.out (by assumption))))) hbb HC0.out HC1.out
        obtain ⟨d0, d1⟩ := two_cells (show Up w w5 by (repeat (first | exact Below.refl _ _ | exact Hid.out (by assumption) | refine Up.trans ?_ (Up.drew _) | refine Up.trans ?_ (Up.drewN _ _) | refine Up.trans ?_ (Up.alloc _ _) | refine Up.trans ?_ (Hid.out (by assumption))))) hbb2 HD0.out HD1.out
        obtain ⟨sw5, Aw5, nw5, cw5, rfl, -, -, -, -, -⟩ := hv.open_
        have HVw5 := Lib.hid hv
        clear hv hu))
    all_goals (go_wp2_with fail; go_meet)
    all_goals first
      | exact ⟨_, _, _, _, _, rfl, CellZ.new _ _ _ _ _, by (refine IV.up (Hid.out (by assumption)) ?_; (repeat (first | exact Below.refl _ _ | exact Hid.out (by assumption) | refine Up.trans ?_ (Up.drew _) | refine Up.trans ?_ (Up.drewN _ _) | refine Up.trans ?_ (Up.alloc _ _) | refine Up.trans ?_ (Hid.out (by assumption))))), by (repeat (first | exact Below.refl _ _ | exact Hid.out (by assumption) | refine Up.trans ?_ (Up.drew _) | refine Up.trans ?_ (Up.drewN _ _) | refine Up.trans ?_ (Up.alloc _ _) | refine Up.trans ?_ (Hid.out (by assumption))))⟩
      | exact ⟨_, _, _, _, _, rfl, HZ.out.set _ _ _ _, HVw5.out.put HZ.out.not_digit _ _ _ _, Up.stored (show Up w w5 by (repeat (first | exact Below.refl _ _ | exact Hid.out (by assumption) | refine Up.trans ?_ (Up.drew _) | refine Up.trans ?_ (Up.drewN _ _) | refine Up.trans ?_ (Up.alloc _ _) | refine Up.trans ?_ (Hid.out (by assumption))))) (Nat.le_refl _) _ _⟩
  case rest =>
    obtain ⟨g7, s7, A7, n7, c7, rfl, hc7, hv7, hu7⟩ := hcut
    have HC7 := Lib.hid hc7
    have HV7 := Lib.hid hv7
    have HU7 := Lib.hid hu7
    clear hc7 hv7 hu7 nx1 nx2 nx3 nx4 c0 c1 d0 d1
    obtain ⟨c0, c1⟩ := two_cells HU7.out hbb HC0.out HC1.out
    obtain ⟨d0, d1⟩ := two_cells HU7.out hbb2 HD0.out HD1.out
    obtain ⟨e0, e1, -, -, le⟩ := HC7.out.facts
    go_upto_region 2 with fail
    go_region_held3 (fun w' => w'.cell? ⟨b, off + q * 2, none⟩ = some (.int .i64 s1) ∧ w'.cell? ⟨b, off + q * 2 + 1, none⟩ = some (.slice B1 m1 k1) ∧ w'.cell? ⟨b2, off2 + q * 2, none⟩ = some (.int .i64 s2) ∧ w'.cell? ⟨b2, off2 + q * 2 + 1, none⟩ = some (.slice B2 m2 k2) ∧ w'.cell? ⟨g7, 0, none⟩ = some (.int .i64 s7) ∧ w'.cell? ⟨g7, 1, none⟩ = some (.slice A7 n7 c7)) (go_keep)
      ((first
        | (go_at_call_of 78 (Value.slice Aw6 (plusR t1 t2).length qw6)
           refine Calls.mono (HPR.out _ _ _ (by (repeat (first | exact Below.refl _ _ | exact Hid.out (by assumption) | refine Up.trans ?_ (Up.drew _) | refine Up.trans ?_ (Up.drewN _ _) | refine Up.trans ?_ (Up.alloc _ _) | refine Up.trans ?_ (Hid.out (by assumption))))) HVw6.out.1 HVw6.out.2.1 (HVw6.out.2.2.up (by (repeat (first | exact Below.refl _ _ | exact Hid.out (by assumption) | refine Up.trans ?_ (Up.drew _) | refine Up.trans ?_ (Up.drewN _ _) | refine Up.trans ?_ (Up.alloc _ _) | refine Up.trans ?_ (Hid.out (by assumption))))))) ?_
           rintro e w7 ⟨Aw7, qw7, rfl, h1w7, h2w7, h3w7, h4w7, hu⟩
           have HUw7 := Lib.hid hu
           obtain ⟨c0, c1⟩ := two_cells (show Up w w7 by (repeat (first | exact Below.refl _ _ | exact Hid.out (by assumption) | refine Up.trans ?_ (Up.drew _) | refine Up.trans ?_ (Up.drewN _ _) | refine Up.trans ?_ (Up.alloc _ _) | refine Up.trans ?_ (Hid.out (by assumption))))) hbb HC0.out HC1.out
           obtain ⟨d0, d1⟩ := two_cells (show Up w w7 by (repeat (first | exact Below.refl _ _ | exact Hid.out (by assumption) | refine Up.trans ?_ (Up.drew _) | refine Up.trans ?_ (Up.drewN _ _) | refine Up.trans ?_ (Up.alloc _ _) | refine Up.trans ?_ (Hid.out (by assumption))))) hbb2 HD0.out HD1.out
           obtain ⟨e0, e1, -, -, le⟩ := (HC7.out.up (w' := w7) (by (repeat (first | exact Below.refl _ _ | exact Hid.out (by assumption) | refine Up.trans ?_ (Up.drew _) | refine Up.trans ?_ (Up.drewN _ _) | refine Up.trans ?_ (Up.alloc _ _) | refine Up.trans ?_ (Hid.out (by assumption)))))).facts
           have HVw7 := Lib.hid (And.intro h1w7 (And.intro h2w7 h3w7))
           have HFw7 := Lib.hid h4w7
           clear h1w7 h2w7 h3w7 h4w7
           clear hu)
        | (go_at_call_of 159 (Value.slice Aw2 t1.length qw2)
           refine Calls.mono (HPL.out _ _ _ _ _ HVw2.out.1 HVw2.out.2.1 (HVw2.out.2.2.up (by (repeat (first | exact Below.refl _ _ | exact Hid.out (by assumption) | refine Up.trans ?_ (Up.drew _) | refine Up.trans ?_ (Up.drewN _ _) | refine Up.trans ?_ (Up.alloc _ _) | refine Up.trans ?_ (Hid.out (by assumption)))))) (HVw5.out.2.2.up (by (repeat (first | exact Below.refl _ _ | exact Hid.out (by assumption) | refine Up.trans ?_ (Up.drew _) | refine Up.trans ?_ (Up.drewN _ _) | refine Up.trans ?_ (Up.alloc _ _) | refine Up.trans ?_ (Hid.out (by assumption))))))) ?_
           rintro e w6 ⟨vw6, rfl, hv, hu⟩
           have HUw6 := Lib.hid hu
           obtain ⟨c0, c1⟩ := two_cells (show Up w w6 by (repeat (first | exact Below.refl _ _ | exact Hid.out (by assumption) | refine Up.trans ?_ (Up.drew _) | refine Up.trans ?_ (Up.drewN _ _) | refine Up.trans ?_ (Up.alloc _ _) | refine Up.trans ?_ (Hid.out (by assumption))))) hbb HC0.out HC1.out
           obtain ⟨d0, d1⟩ := two_cells (show Up w w6 by (repeat (first | exact Below.refl _ _ | exact Hid.out (by assumption) | refine Up.trans ?_ (Up.drew _) | refine Up.trans ?_ (Up.drewN _ _) | refine Up.trans ?_ (Up.alloc _ _) | refine Up.trans ?_ (Hid.out (by assumption))))) hbb2 HD0.out HD1.out
           obtain ⟨e0, e1, -, -, le⟩ := (HC7.out.up (w' := w6) (by (repeat (first | exact Below.refl _ _ | exact Hid.out (by assumption) | refine Up.trans ?_ (Up.drew _) | refine Up.trans ?_ (Up.drewN _ _) | refine Up.trans ?_ (Up.alloc _ _) | refine Up.trans ?_ (Hid.out (by assumption)))))).facts
           obtain ⟨Aw6, qw6, rfl, h1w6, h2w6, h3w6, h4w6⟩ := hv
           have HVw6 := Lib.hid (And.intro h1w6 (And.intro h2w6 h3w6))
           have HFw6 := Lib.hid h4w6
           clear h1w6 h2w6 h3w6 h4w6
           clear hu)
        | (go_at_call_of 158 (Value.slice (some ⟨b2, off2, none⟩) r.length d)
           refine Calls.mono (HT2.out _ _ (by (repeat (first | exact Below.refl _ _ | exact Hid.out (by assumption) | refine Up.trans ?_ (Up.drew _) | refine Up.trans ?_ (Up.drewN _ _) | refine Up.trans ?_ (Up.alloc _ _) | refine Up.trans ?_ (Hid.out (by assumption))))) (HVw4.out.up (by (repeat (first | exact Below.refl _ _ | exact Hid.out (by assumption) | refine Up.trans ?_ (Up.drew _) | refine Up.trans ?_ (Up.drewN _ _) | refine Up.trans ?_ (Up.alloc _ _) | refine Up.trans ?_ (Hid.out (by assumption))))))) ?_
           rintro e w5 ⟨vw5, rfl, hv, hu⟩
           have HUw5 := Lib.hid hu
           obtain ⟨c0, c1⟩ := two_cells (show Up w w5 by (repeat (first | exact Below.refl _ _ | exact Hid.out (by assumption) | refine Up.trans ?_ (Up.drew _) | refine Up.trans ?_ (Up.drewN _ _) | refine Up.trans ?_ (Up.alloc _ _) | refine Up.trans ?_ (Hid.out (by assumption))))) hbb HC0.out HC1.out
           obtain ⟨d0, d1⟩ := two_cells (show Up w w5 by (repeat (first | exact Below.refl _ _ | exact Hid.out (by assumption) | refine Up.trans ?_ (Up.drew _) | refine Up.trans ?_ (Up.drewN _ _) | refine Up.trans ?_ (Up.alloc _ _) | refine Up.trans ?_ (Hid.out (by assumption))))) hbb2 HD0.out HD1.out
           obtain ⟨e0, e1, -, -, le⟩ := (HC7.out.up (w' := w5) (by (repeat (first | exact Below.refl _ _ | exact Hid.out (by assumption) | refine Up.trans ?_ (Up.drew _) | refine Up.trans ?_ (Up.drewN _ _) | refine Up.trans ?_ (Up.alloc _ _) | refine Up.trans ?_ (Hid.out (by assumption)))))).facts
           obtain ⟨Aw5, qw5, rfl, h1w5, h2w5, h3w5, h4w5⟩ := hv
           have HVw5 := Lib.hid (And.intro h1w5 (And.intro h2w5 h3w5))
           have HFw5 := Lib.hid h4w5
           clear h1w5 h2w5 h3w5 h4w5
           clear hu)
        | (go_at_call_of 62 (Value.int IntKind.i64 sw3)
           refine Calls.mono (HNG.out _ _ (HVw3.out.up (by (repeat (first | exact Below.refl _ _ | exact Hid.out (by assumption) | refine Up.trans ?_ (Up.drew _) | refine Up.trans ?_ (Up.drewN _ _) | refine Up.trans ?_ (Up.alloc _ _) | refine Up.trans ?_ (Hid.out (by assumption))))))) ?_
           rintro e w4 ⟨vw4, rfl, hv, hu⟩
           have HUw4 := Lib.hid hu
           obtain ⟨c0, c1⟩ := two_cells (show Up w w4 by (repeat (first | exact Below.refl _ _ | exact Hid.out (by assumption) | refine Up.trans ?_ (Up.drew _) | refine Up.trans ?_ (Up.drewN _ _) | refine Up.trans ?_ (Up.alloc _ _) | refine Up.trans ?_ (Hid.out (by assumption))))) hbb HC0.out HC1.out
           obtain ⟨d0, d1⟩ := two_cells (show Up w w4 by (repeat (first | exact Below.refl _ _ | exact Hid.out (by assumption) | refine Up.trans ?_ (Up.drew _) | refine Up.trans ?_ (Up.drewN _ _) | refine Up.trans ?_ (Up.alloc _ _) | refine Up.trans ?_ (Hid.out (by assumption))))) hbb2 HD0.out HD1.out
           obtain ⟨e0, e1, -, -, le⟩ := (HC7.out.up (w' := w4) (by (repeat (first | exact Below.refl _ _ | exact Hid.out (by assumption) | refine Up.trans ?_ (Up.drew _) | refine Up.trans ?_ (Up.drewN _ _) | refine Up.trans ?_ (Up.alloc _ _) | refine Up.trans ?_ (Hid.out (by assumption)))))).facts
           obtain ⟨sw4, Aw4, nw4, cw4, rfl, -, -, -, -, -⟩ := hv.open_
           have HVw4 := Lib.hid hv
           clear hv hu)
        | (go_at_call_of 102 (Value.int IntKind.i64 s1)
           refine Calls.mono (HQ2.out _ _ (by (repeat (first | exact Below.refl _ _ | exact Hid.out (by assumption) | refine Up.trans ?_ (Up.drew _) | refine Up.trans ?_ (Up.drewN _ _) | refine Up.trans ?_ (Up.alloc _ _) | refine Up.trans ?_ (Hid.out (by assumption))))) (HV7.out.up (by (repeat (first | exact Below.refl _ _ | exact Hid.out (by assumption) | refine Up.trans ?_ (Up.drew _) | refine Up.trans ?_ (Up.drewN _ _) | refine Up.trans ?_ (Up.alloc _ _) | refine Up.trans ?_ (Hid.out (by assumption))))))) ?_
           rintro e w3 ⟨vw3, rfl, hv, hu⟩
           have HUw3 := Lib.hid hu
           obtain ⟨c0, c1⟩ := two_cells (show Up w w3 by (repeat (first | exact Below.refl _ _ | exact Hid.out (by assumption) | refine Up.trans ?_ (Up.drew _) | refine Up.trans ?_ (Up.drewN _ _) | refine Up.trans ?_ (Up.alloc _ _) | refine Up.trans ?_ (Hid.out (by assumption))))) hbb HC0.out HC1.out
           obtain ⟨d0, d1⟩ := two_cells (show Up w w3 by (repeat (first | exact Below.refl _ _ | exact Hid.out (by assumption) | refine Up.trans ?_ (Up.drew _) | refine Up.trans ?_ (Up.drewN _ _) | refine Up.trans ?_ (Up.alloc _ _) | refine Up.trans ?_ (Hid.out (by assumption))))) hbb2 HD0.out HD1.out
           obtain ⟨e0, e1, -, -, le⟩ := (HC7.out.up (w' := w3) (by (repeat (first | exact Below.refl _ _ | exact Hid.out (by assumption) | refine Up.trans ?_ (Up.drew _) | refine Up.trans ?_ (Up.drewN _ _) | refine Up.trans ?_ (Up.alloc _ _) | refine Up.trans ?_ (Hid.out (by assumption)))))).facts
           obtain ⟨sw3, Aw3, nw3, cw3, rfl, -, -, -, -, -⟩ := hv.open_
           have HVw3 := Lib.hid hv
           clear hv hu)
        | (go_at_call_of 158 (Value.slice (some ⟨b, off, none⟩) r.length c)
           refine Calls.mono (HT1.out _ _ (by (repeat (first | exact Below.refl _ _ | exact Hid.out (by assumption) | refine Up.trans ?_ (Up.drew _) | refine Up.trans ?_ (Up.drewN _ _) | refine Up.trans ?_ (Up.alloc _ _) | refine Up.trans ?_ (Hid.out (by assumption))))) (HVw1.out.up (by (repeat (first | exact Below.refl _ _ | exact Hid.out (by assumption) | refine Up.trans ?_ (Up.drew _) | refine Up.trans ?_ (Up.drewN _ _) | refine Up.trans ?_ (Up.alloc _ _) | refine Up.trans ?_ (Hid.out (by assumption))))))) ?_
           rintro e w2 ⟨vw2, rfl, hv, hu⟩
           have HUw2 := Lib.hid hu
           obtain ⟨c0, c1⟩ := two_cells (show Up w w2 by (repeat (first | exact Below.refl _ _ | exact Hid.out (by assumption) | refine Up.trans ?_ (Up.drew _) | refine Up.trans ?_ (Up.drewN _ _) | refine Up.trans ?_ (Up.alloc _ _) | refine Up.trans ?_ (Hid.out (by assumption))))) hbb HC0.out HC1.out
           obtain ⟨d0, d1⟩ := two_cells (show Up w w2 by (repeat (first | exact Below.refl _ _ | exact Hid.out (by assumption) | refine Up.trans ?_ (Up.drew _) | refine Up.trans ?_ (Up.drewN _ _) | refine Up.trans ?_ (Up.alloc _ _) | refine Up.trans ?_ (Hid.out (by assumption))))) hbb2 HD0.out HD1.out
           obtain ⟨e0, e1, -, -, le⟩ := (HC7.out.up (w' := w2) (by (repeat (first | exact Below.refl _ _ | exact Hid.out (by assumption) | refine Up.trans ?_ (Up.drew _) | refine Up.trans ?_ (Up.drewN _ _) | refine Up.trans ?_ (Up.alloc _ _) | refine Up.trans ?_ (Hid.out (by assumption)))))).facts
           obtain ⟨Aw2, qw2, rfl, h1w2, h2w2, h3w2, h4w2⟩ := hv
           have HVw2 := Lib.hid (And.intro h1w2 (And.intro h2w2 h3w2))
           have HFw2 := Lib.hid h4w2
           clear h1w2 h2w2 h3w2 h4w2
           clear hu)
        | (go_at_call_of 102 (Value.int IntKind.i64 s2)
           refine Calls.mono (HQ1.out _ _ (by (repeat (first | exact Below.refl _ _ | exact Hid.out (by assumption) | refine Up.trans ?_ (Up.drew _) | refine Up.trans ?_ (Up.drewN _ _) | refine Up.trans ?_ (Up.alloc _ _) | refine Up.trans ?_ (Hid.out (by assumption))))) (HV7.out.up (by (repeat (first | exact Below.refl _ _ | exact Hid.out (by assumption) | refine Up.trans ?_ (Up.drew _) | refine Up.trans ?_ (Up.drewN _ _) | refine Up.trans ?_ (Up.alloc _ _) | refine Up.trans ?_ (Hid.out (by assumption))))))) ?_
           rintro e w1 ⟨vw1, rfl, hv, hu⟩
           have HUw1 := Lib.hid hu
           obtain ⟨c0, c1⟩ := two_cells (show Up w w1 by (repeat (first | exact Below.refl _ _ | exact Hid.out (by assumption) | refine Up.trans ?_ (Up.drew _) | refine Up.trans ?_ (Up.drewN _ _) | refine Up.trans ?_ (Up.alloc _ _) | refine Up.trans ?_ (Hid.out (by assumption))))) hbb HC0.out HC1.out
           obtain ⟨d0, d1⟩ := two_cells (show Up w w1 by (repeat (first | exact Below.refl _ _ | exact Hid.out (by assumption) | refine Up.trans ?_ (Up.drew _) | refine Up.trans ?_ (Up.drewN _ _) | refine Up.trans ?_ (Up.alloc _ _) | refine Up.trans ?_ (Hid.out (by assumption))))) hbb2 HD0.out HD1.out
           obtain ⟨e0, e1, -, -, le⟩ := (HC7.out.up (w' := w1) (by (repeat (first | exact Below.refl _ _ | exact Hid.out (by assumption) | refine Up.trans ?_ (Up.drew _) | refine Up.trans ?_ (Up.drewN _ _) | refine Up.trans ?_ (Up.alloc _ _) | refine Up.trans ?_ (Hid.out (by assumption)))))).facts
           obtain ⟨sw1, Aw1, nw1, cw1, rfl, -, -, -, -, -⟩ := hv.open_
           have HVw1 := Lib.hid hv
           clear hv hu)))
    all_goals
      go_wp2
      go_ret
      exact ⟨_, rfl, by rw [HE.out]; exact ⟨Aw7, qw7, rfl, HVw7.out.1, HVw7.out.2.1, HVw7.out.2.2, fun b' off' e => by
        rcases HFw7.out b' off' e with h | h
        · exact Nat.le_trans (show Up w w6 by (repeat (first | exact Below.refl _ _ | exact Hid.out (by assumption) | refine Up.trans ?_ (Up.drew _) | refine Up.trans ?_ (Up.drewN _ _) | refine Up.trans ?_ (Up.alloc _ _) | refine Up.trans ?_ (Hid.out (by assumption))))).size h
        · exact Nat.le_trans (show Up w w5 by (repeat (first | exact Below.refl _ _ | exact Hid.out (by assumption) | refine Up.trans ?_ (Up.drew _) | refine Up.trans ?_ (Up.drewN _ _) | refine Up.trans ?_ (Up.alloc _ _) | refine Up.trans ?_ (Hid.out (by assumption))))).size (HFw6.out b' off' (h ▸ e))⟩, by (repeat (first | exact Below.refl _ _ | exact Hid.out (by assumption) | refine Up.trans ?_ (Up.drew _) | refine Up.trans ?_ (Up.drewN _ _) | refine Up.trans ?_ (Up.alloc _ _) | refine Up.trans ?_ (Hid.out (by assumption))))⟩
end Go.Proofs.YtacbjbnocepnaaaGreatDoor
namespace Go.Proofs.YtacbjbnocepnaaaGreatDoor
open Go.RowKit Fm
def PlaceV (w : World) (g : Nat) (v : Value) : Option (List Int) → Prop
  | none => v = .slice none 0 0
  | some r => ∃ A c, v = .slice A r.length c ∧ r ≠ [] ∧ r.length ≤ c ∧ c ≤ maxLen ∧ RdZ w A r ∧ Away A g
def SysB (w : World) (g n : Nat) (S : Sys) : Prop :=
  ∃ arr : Array Value, w.heap[g]? = some (.cells arr 93 (0, 0)) ∧ arr.size = 11 ∧ arr[0]? = some (.int .i64 n) ∧ S.length = 10 ∧
    ∀ c, c < 10 → ∃ A m k, arr[c + 1]? = some (.slice A m k) ∧ PlaceV w g (.slice A m k) (S.getD c none)
theorem PlaceV.up {w w' : World} {g : Nat} {v : Value} {o : Option (List Int)} (h : PlaceV w g v o) (hu : Up w w') : PlaceV w' g v o := by
  cases o with
  | none => exact h
  | some r =>
    obtain ⟨A, c, h1, h2, h3, h4, h5, h6⟩ := h
    exact ⟨A, c, h1, h2, h3, h4, h5.up hu, h6⟩
theorem SysB.lt {w : World} {g n : Nat} {S : Sys} (h : SysB w g n S) : g < w.heap.size := by
  obtain ⟨arr, h1, -⟩ := h
  rcases Nat.lt_or_ge g w.heap.size with h2 | h2
  · exact h2
  · rw [Array.getElem?_eq_none h2] at h1; cases h1
theorem SysB.up {w w' : World} {g n : Nat} {S : Sys} (h : SysB w g n S) (hu : Up w w') : SysB w' g n S := by
  have hl := h.lt
  obtain ⟨arr, h1, h2, h3, h4, h5⟩ := h
  refine ⟨arr, (hu.block g hl).trans h1, h2, h3, h4, fun c hc => ?_⟩
  obtain ⟨A, m, k, e1, e2⟩ := h5 c hc
  exact ⟨A, m, k, e1, e2.up hu⟩
theorem SysB.frozen {w : World} {g n : Nat} {S : Sys} (h : SysB w g n S) (i : Nat) : w.frozen? ⟨g, i, none⟩ = false := by
  obtain ⟨arr, h1, -⟩ := h
  simp [World.frozen?, h1]
theorem SysB.cell0 {w : World} {g n : Nat} {S : Sys} (h : SysB w g n S) : w.cell? ⟨g, 0, none⟩ = some (.int .i64 n) := by
  obtain ⟨arr, h1, -, h3, -⟩ := h
  rw [cell_of_row w g 0 _ _ _ h1]; exact h3
theorem SysB.at_ {w : World} {g n : Nat} {S : Sys} (h : SysB w g n S) {c : Nat} (hc : c < 10) : ∃ A m k, w.cell? ⟨g, c + 1, none⟩ = some (.slice A m k) ∧ PlaceV w g (.slice A m k) (S.getD c none) := by
  obtain ⟨arr, h1, -, -, -, h5⟩ := h
  obtain ⟨A, m, k, e1, e2⟩ := h5 c hc
  exact ⟨A, m, k, by rw [cell_of_row w g _ _ _ _ h1]; exact e1, e2⟩
theorem SysB.not_digit {w : World} {g n : Nat} {S : Sys} (h : SysB w g n S) (j x : Nat) : w.cell? ⟨g, j, none⟩ ≠ some (.int .u32 (x : Int)) := by
  obtain ⟨arr, h1, h2, h3, h4, h5⟩ := h
  rw [cell_of_row w g _ _ _ _ h1]
  match j with
  | 0 => rw [h3]; intro e; injection e with e; injection e with e1 e2; cases e1
  | j + 1 =>
    rcases Nat.lt_or_ge j 10 with hj | hj
    · obtain ⟨A, m, k, e1, -⟩ := h5 j hj
      rw [e1]; intro e; injection e with e; cases e
    · rw [Array.getElem?_eq_none (by omega)]; simp
theorem IVp.put1 {w : World} {s : Int} {d : Value} {z : Int} {g : Nat} (h : IVp w s d z) (hg : ∀ j x : Nat, w.cell? ⟨g, j, none⟩ ≠ some (.int .u32 (x : Int))) (o : Nat) (u : Value) : IVp (w.setCell ⟨g, o, none⟩ u) s d z := by
  have hkey : ∀ ds, Sl .u32 w d ds → Sl .u32 (w.setCell ⟨g, o, none⟩ u) d ds := by
    rintro ds ⟨A, c, rfl, h1, h2, h3⟩
    refine ⟨A, c, rfl, h1, h2, fun hn => ?_⟩
    obtain ⟨b, off, rfl, hb, hc⟩ := h3 hn
    have hne : b ≠ g := by
      rintro rfl
      exact hg _ _ (hc 0 (List.length_pos_iff.2 hn))
    refine ⟨b, off, rfl, by simpa [World.setCell] using hb, fun i hi => ?_⟩
    rw [World.cell?_setCell_other _ _ _ _ (by intro e; injection e with e; exact hne e.symm)]
    exact hc i hi
  rcases h with ⟨h1, h2, h3⟩ | ⟨h1, h2, h3⟩
  · exact .inl ⟨h1, h2, hkey _ h3⟩
  · exact .inr ⟨h1, h2, hkey _ h3⟩
theorem RdZ.put {w : World} {A : Option Addr} {zs : List Int} {g : Nat} (h : RdZ w A zs) (ha : Away A g) (hg : ∀ j x : Nat, w.cell? ⟨g, j, none⟩ ≠ some (.int .u32 (x : Int))) (o : Nat) (u : Value) : RdZ (w.setCell ⟨g, o, none⟩ u) A zs := fun hn => by
  obtain ⟨b, off, rfl, hb, hc⟩ := h hn
  have hne := ha b off rfl
  refine ⟨b, off, rfl, by simpa [World.setCell] using hb, fun i hi => ?_⟩
  obtain ⟨s, B, m, k, e1, e2, e3⟩ := hc i hi
  refine ⟨s, B, m, k, ?_, ?_, e3.put1 hg _ _⟩
  · rw [World.cell?_setCell_other _ _ _ _ (by intro e; injection e with e; exact hne e.symm)]; exact e1
  · rw [World.cell?_setCell_other _ _ _ _ (by intro e; injection e with e; exact hne e.symm)]; exact e2
theorem PlaceV.put {w : World} {g : Nat} {v : Value} {o : Option (List Int)} (h : PlaceV w g v o) (hg : ∀ j x : Nat, w.cell? ⟨g, j, none⟩ ≠ some (.int .u32 (x : Int))) (i : Nat) (u : Value) : PlaceV (w.setCell ⟨g, i, none⟩ u) g v o := by
  cases o with
  | none => exact h
  | some r =>
    obtain ⟨A, c, h1, h2, h3, h4, h5, h6⟩ := h
    exact ⟨A, c, h1, h2, h3, h4, h5.put h6 hg _ _, h6⟩
theorem SysB.store {w : World} {g n : Nat} {S : Sys} (h : SysB w g n S) {c : Nat} (hc : c < 10) {A : Option Addr} {m k : Nat} {o : Option (List Int)} (hv : PlaceV w g (.slice A m k) o) : SysB (w.setCell ⟨g, c + 1, none⟩ (.slice A m k)) g n (S.set c o) := by
  have hd := h.not_digit
  obtain ⟨arr, h1, h2, h3, h4, h5⟩ := h
  refine ⟨arr.setIfInBounds (c + 1) (.slice A m k), by simp [World.setCell, Array.getElem?_modify, h1], by simpa using h2, ?_, by simpa using h4, fun d hd' => ?_⟩
  · rw [Array.getElem?_setIfInBounds_ne (by omega)]; exact h3
  · rw [getD_set S c d _ (by omega)]
    by_cases e : c = d
    · subst e
      refine ⟨A, m, k, ?_, by rw [if_pos rfl]; exact hv.put hd _ _⟩
      rw [Array.getElem?_setIfInBounds_self]; simp; omega
    · obtain ⟨A2, m2, k2, e1, e2⟩ := h5 d hd'
      refine ⟨A2, m2, k2, ?_, by rw [if_neg e]; exact e2.put hd _ _⟩
      rw [Array.getElem?_setIfInBounds_ne (by omega)]; exact e1
end Go.Proofs.YtacbjbnocepnaaaGreatDoor

/- Contract of the reference implementation's sum of a value. -/
import Derived.Test.YtgcmogldiahdpaaGreatDoorQHJ
import Derived.Test.YtgcmogldiahdpaaGreatDoorQGR
namespace Go.Proofs.YtgcmogldiahdpaaGreatDoor
open Go.RowKit Fm
/-- The loop's state: the sum so far lies in block g. -/
def EvSt (w : World) (g : Nat) (q : Rat) (wr : World) : Prop :=
  ∃ (s : Int) (b : Bool) (A : Option Addr) (n c : Nat) (s2 : Int) (b2 : Bool) (A2 : Option Addr) (n2 c2 : Nat), CellR wr g s b (.slice A n c) s2 b2 (.slice A2 n2 c2) ∧ RQ wr (.agg #[.int .i64 s, .bool b, .slice A n c, .int .i64 s2, .bool b2, .slice A2 n2 c2]) q ∧ Up w wr
theorem evalQ_nil (x : Int) : evalQ [] x [] = (x : Rat) := rfl
theorem RI.whole {w : World} {s s2 : Int} {b b2 : Bool} {A A2 : Option Addr} {n c n2 c2 : Nat} {x : Int} (h : RI w (.agg #[.int .i64 s, .bool b, .slice A n c]) x) (h1 : RI w (.agg #[.int .i64 s2, .bool b2, .slice A2 n2 c2]) 1) : RQ w (.agg #[.int .i64 s, .bool b, .slice A n c, .int .i64 s2, .bool b2, .slice A2 n2 c2]) (x : Rat) :=
  ⟨s, s2, b, b2, A, A2, n, c, n2, c2, rfl, by rw [Rat.num_intCast]; exact h, by rw [Rat.den_intCast]; exact h1⟩
theorem evalQ_next (zs : List Int) (qs : List Rat) (x : Int) (k : Nat) (h1 : k < zs.length) (h2 : k < qs.length) : evalQ (zs.take (k + 1)) x (qs.take (k + 1)) = evalQ (zs.take k) x (qs.take k) + (zs[k] : Rat) * qs[k] := by
  unfold evalQ
  rw [List.take_succ_eq_append_getElem h1, List.take_succ_eq_append_getElem h2, List.zipWith_append (by rw [List.length_take, List.length_take]; omega), List.foldl_append]
  rfl
set_option maxHeartbeats 6000000 in
set_option maxRecDepth 10000 in
theorem refEval_any (A A2 B : Option Addr) (c c2 n2 d : Nat) (s : Int) (b : Bool) (zs : List Int) (x : Int) (qs : List Rat) (w : World) (hzq : zs.length = qs.length) (hn : zs.length ≤ 1000000) (hr : RdE eltR w A zs) (hx : RI w (.agg #[.int .i64 s, .bool b, .slice A2 n2 c2]) x) (hs : RdE eltQ w B qs) (M : Nat) (hM : M ≤ 1000000) (hM3 : 3 ≤ M) (hbz : ∀ z, z ∈ zs → QB (z : Rat) M) (hbq : ∀ q, q ∈ qs → QB q M) (hbs : ∀ k, k ≤ zs.length → QB (evalQ (zs.take k) x (qs.take k)) (4 * M)) :
    Calls Tryz.prog 44 #[.agg #[.slice A zs.length c, .int .i64 s, .bool b, .slice A2 n2 c2], .slice B qs.length d] w fun e w' => ∃ v, e = .returned v ∧ RQ w' v (evalQ zs x qs) ∧ Up w w' := by
  have HZQ := Lib.hid hzq
  clear hzq
  go_enter Tryz.func44, Tryz.ntmps44
  go_wp2_with fail
  have HQ0 := Lib.hid ((CellQ.new w (.slice A zs.length c) (.slice A2 n2 c2) s b).up (Up.alloc _ (.cells #[.int .i64 0, .bool false, .slice none 0 0, .int .i64 0, .bool false, .slice none 0 0] 63)))
  have HR0 := Lib.hid (CellR.new (w.alloc (.cells #[.slice A zs.length c, .int .i64 s, .bool b, .slice A2 n2 c2] 70)) 0 false (.slice none 0 0) 0 false (.slice none 0 0))
  have HUW := Lib.hid ((Up.alloc w (.cells #[.slice A zs.length c, .int .i64 s, .bool b, .slice A2 n2 c2] 70)).trans (Up.alloc _ (.cells #[.int .i64 0, .bool false, .slice none 0 0, .int .i64 0, .bool false, .slice none 0 0] 63)))
  rw [size_alloc] at HR0
  generalize (w.alloc (.cells #[.slice A zs.length c, .int .i64 s, .bool b, .slice A2 n2 c2] 70)).alloc (.cells #[.int .i64 0, .bool false, .slice none 0 0, .int .i64 0, .bool false, .slice none 0 0] 63) = wB at *
  obtain ⟨g0, hg0⟩ : ∃ g0, g0 = w.heap.size := ⟨_, rfl⟩
  obtain ⟨g1, hg1⟩ : ∃ g1, g1 = w.heap.size + 1 := ⟨_, rfl⟩
  have HG1 := Lib.hid (show w.heap.size ≤ g1 by omega)
  rw [← hg0] at HQ0
  rw [← hg1] at HR0
  rw [← hg1, ← hg0]
  clear hg0 hg1
  have HX := Lib.hid (hx.up HUW.out)
  have HOF := Lib.hid (fun W => refOf_any 1 W (by omega) (by omega))
  obtain ⟨q0, q1, q2, q3, -, lq⟩ := HQ0.out.facts
  obtain ⟨nx1, nx2⟩ := And.intro (lt_ne lq) (lt_ne' lq)
  go_cut [5] (fun p5 wx => ∃ g5 s1 b1 A1 n1 c1 s2 b2 A2 n2 c2, p5 = .pointer (some ⟨g5, 0, none⟩) ∧ CellR wx g5 s1 b1 (.slice A1 n1 c1) s2 b2 (.slice A2 n2 c2) ∧ RQ wx (.agg #[.int .i64 s1, .bool b1, .slice A1 n1 c1, .int .i64 s2, .bool b2, .slice A2 n2 c2]) (x : Rat) ∧ Up wB wx ∧ wB.heap.size ≤ g5)
  case first =>
    go_region_held3 (fun w' => w'.cell? ⟨g0, 1, none⟩ = some (.int .i64 s) ∧ w'.cell? ⟨g0, 2, none⟩ = some (.bool b) ∧ w'.cell? ⟨g0, 3, none⟩ = some (.slice A2 n2 c2)) (go_keep)
      ((first
        | (go_at_call 107
           refine Calls.mono (HOF.out _) ?_
           rintro e w3 ⟨v3, rfl, hv, hu⟩
           try (have HZ : Go.RowKit.Hid (CellR w3 wB.heap.size 0 false (.slice none 0 0) 0 false (.slice none 0 0)) := CellR.up (CellR.new wB.drew 0 false (.slice none 0 0) 0 false (.slice none 0 0)) hu)
           try (obtain ⟨z0, z1, z2, z3, z4, z5, lz⟩ := HZ.out.facts)
           try (obtain ⟨y0, y1, y2, y3, y4, y5⟩ := HZ.out.frozen6)
           have HU3 := Lib.hid hu
           have HV3 := Lib.hid hv
           obtain ⟨s3, b3, A3, n3, c3, rfl, -⟩ := hv.open_
           have HRQ := Lib.hid (show RQ w3 (.agg #[.int .i64 s, .bool b, .slice A2 n2 c2, .int .i64 s3, .bool b3, .slice A3 n3 c3]) (x : Rat) from RI.whole (HX.out.up (by (repeat (first | exact Below.refl _ _ | exact Go.RowKit.Hid.out (by assumption) | refine Up.trans ?_ (Up.drew _) | refine Up.trans ?_ (Up.drewN _ _) | refine Up.trans ?_ (Up.alloc _ _) | refine Up.trans ?_ (Go.RowKit.Hid.out (by assumption)))))) hv)
           obtain ⟨q0, q1, q2, q3, -, lq⟩ := (HQ0.out.up (w' := w3) (by (repeat (first | exact Below.refl _ _ | exact Go.RowKit.Hid.out (by assumption) | refine Up.trans ?_ (Up.drew _) | refine Up.trans ?_ (Up.drewN _ _) | refine Up.trans ?_ (Up.alloc _ _) | refine Up.trans ?_ (Go.RowKit.Hid.out (by assumption)))))).facts
           obtain ⟨nx3, nx4⟩ := And.intro (lt_ne lq) (lt_ne' lq)
           clear hu hv)))
    all_goals (go_wp2_with fail; go_meet)
    all_goals first
      | exact ⟨_, _, _, _, _, _, _, _, _, _, _, rfl, HZ.out.set _ _ _ _ _ _, HRQ.out.put6 HZ.out _ _ _ _ _ _, Up.put6 (show Up wB w3 by (repeat (first | exact Below.refl _ _ | exact Go.RowKit.Hid.out (by assumption) | refine Up.trans ?_ (Up.drew _) | refine Up.trans ?_ (Up.drewN _ _) | refine Up.trans ?_ (Up.alloc _ _) | refine Up.trans ?_ (Go.RowKit.Hid.out (by assumption))))) (Nat.le_refl _) _ _ _ _ _ _, Nat.le_refl _⟩
      | exact ⟨_, _, _, _, _, _, _, _, _, _, _, rfl, CellR.new _ _ _ _ _ _ _, HRQ.out.up (Up.alloc _ _), by (repeat (first | exact Below.refl _ _ | exact Go.RowKit.Hid.out (by assumption) | refine Up.trans ?_ (Up.drew _) | refine Up.trans ?_ (Up.drewN _ _) | refine Up.trans ?_ (Up.alloc _ _) | refine Up.trans ?_ (Go.RowKit.Hid.out (by assumption)))), (show Up wB w3 by (repeat (first | exact Below.refl _ _ | exact Go.RowKit.Hid.out (by assumption) | refine Up.trans ?_ (Up.drew _) | refine Up.trans ?_ (Up.drewN _ _) | refine Up.trans ?_ (Up.alloc _ _) | refine Up.trans ?_ (Go.RowKit.Hid.out (by assumption))))).size⟩
  case rest =>
    obtain ⟨g5, s1, b1, A1, n1, c1, s2, b2, A5, n5, c5, rfl, hc5, hv5, hu5, hg5⟩ := hcut
    have HST : Hid (EvSt wB g5 (evalQ (zs.take 0) x (qs.take 0)) wc) := Lib.hid (by rw [List.take_zero, List.take_zero, evalQ_nil]; exact ⟨s1, b1, A1, n1, c1, s2, b2, A5, n5, c5, hc5, hv5, hu5⟩)
    have HG5 := Lib.hid hg5
    clear hc5 hv5 hu5 hg5 q0 q1 q2 q3 lq nx1 nx2
    have HRE := Lib.hid (hr.up HUW.out)
    have HSE := Lib.hid (hs.up HUW.out)
    clear hr hs hx
    obtain ⟨q0, q1, q2, q3, -, lq⟩ := (HQ0.out.up (w' := wc) (by obtain ⟨_, _, _, _, _, _, _, _, _, _, _, _, h⟩ := HST.out; exact h)).facts
    go_wp2_with fail
    clear q0 q1 q2 q3 lq
    go_loopw [15] (fun i wr => ∃ k : Nat, k ≤ zs.length ∧ i = .int .i64 k ∧ Hid (EvSt wB g5 (evalQ (zs.take k) x (qs.take k)) wr)) (fun i _ => zs.length - (intOf i).toNat)
    case atStart => exact ⟨0, by omega, rfl, HST⟩
    case round =>
      obtain ⟨k, hk, rfl, HS⟩ := hrel
      obtain ⟨t5, d5, D5, m5, j5, t6, d6, D6, m6, j6, hcr, hq, hup⟩ := HS.out
      have HCR := Lib.hid hcr
      have HQ := Lib.hid hq
      have HUP := Lib.hid hup
      clear hcr hq hup HS
      by_cases hkl : k < zs.length
      · have hkq : k < qs.length := by rw [← HZQ.out]; exact hkl
        obtain ⟨b, off, cs, rfl, hbb, ⟨t1, d1, D1, m1, j1, rfl, hz⟩, hcell⟩ := (HRE.out.up HUP.out).at_ hkl
        obtain ⟨b2, off2, cs2, rfl, hbb2, hqq, hcell2⟩ := (HSE.out.up HUP.out).at_ hkq
        obtain ⟨e1, f1, F1, y1, x1, e2, f2, F2, y2, x2, rfl, -, -⟩ := id hqq
        have HRQ := Lib.hid (eltQ_rq hqq)
        have HRI := Lib.hid hz.ri
        have c0 := hcell 0 _ rfl
        have c1 := hcell 1 _ rfl
        have c2 := hcell 2 _ rfl
        have HC2 := Lib.hid hcell2
        have HBB2 := Lib.hid hbb2
        have HNEXT : Hid (evalQ (zs.take (k + 1)) x (qs.take (k + 1)) = evalQ (zs.take k) x (qs.take k) + (zs[k] : Rat) * qs[k]) := Lib.hid (evalQ_next zs qs x k hkl hkq)
        have HB1 := Lib.hid (And.intro (hbz _ (List.getElem_mem hkl)) (And.intro (hbq _ (List.getElem_mem hkq)) (hbs k (by omega))))
        have HD := Lib.hid (fun W (hu : Up wr W) => And.intro ((hu.cells.1 _ _ hbb2).trans (hcell2 0 _ rfl)) (And.intro ((hu.cells.1 _ _ hbb2).trans (hcell2 1 _ rfl)) (And.intro ((hu.cells.1 _ _ hbb2).trans (hcell2 2 _ rfl)) (And.intro ((hu.cells.1 _ _ hbb2).trans (hcell2 3 _ rfl)) (And.intro ((hu.cells.1 _ _ hbb2).trans (hcell2 4 _ rfl)) ((hu.cells.1 _ _ hbb2).trans (hcell2 5 _ rfl)))))))
        simp only [eltQ, Nat.add_zero] at HD
        clear hcell hcell2 hqq hz hbb2
        generalize zs[k] = z at *
        generalize qs[k] = q at *
        simp only [eltR, Nat.add_zero] at c0 c1 c2
        have HSG := Lib.hid (fun W (hu : Up wr W) => refSign_any _ z W (HRI.out.up hu))
        go_wp2_with fail
        have HCI := Lib.hid (CellI.new wr t1 d1 (.slice D1 m1 j1))
        have HUC := Lib.hid (Up.alloc wr (.cells #[.int .i64 t1, .bool d1, .slice D1 m1 j1] 61))
        obtain ⟨wC, hwC⟩ : ∃ wC, wC = wr.alloc (.cells #[.int .i64 t1, .bool d1, .slice D1 m1 j1] 61) := ⟨_, rfl⟩
        obtain ⟨g7, hg7⟩ : ∃ g7, g7 = wr.heap.size := ⟨_, rfl⟩
        rw [← hwC] at HCI HUC ⊢
        rw [← hg7] at HCI ⊢
        have HG7 := Lib.hid (show g5 < g7 by have := HCR.out.lt; omega)
        clear hwC hg7 c0 c1 c2 hbb
        refine Calls.mono (HSG.out _ (by (repeat (first | exact Below.refl _ _ | exact Go.RowKit.Hid.out (by assumption) | refine Up.trans ?_ (Up.drew _) | refine Up.trans ?_ (Up.drewN _ _) | refine Up.trans ?_ (Up.alloc _ _) | refine Up.trans ?_ (Go.RowKit.Hid.out (by assumption)))))) ?_
        rintro e w2 ⟨rfl, hu⟩
        have HU2 := Lib.hid hu
        clear hu
        by_cases hz0 : z = 0
        · subst hz0
          have HN2 : Hid (evalQ (zs.take (k + 1)) x (qs.take (k + 1)) = evalQ (zs.take k) x (qs.take k)) := Lib.hid (by rw [HNEXT.out, Rat.intCast_zero, Rat.zero_mul, Rat.add_zero])
          go_wp2
          exact ⟨⟨k + 1, hkl, by simp, Lib.hid (by rw [HN2.out]; exact ⟨_, _, _, _, _, _, _, _, _, _, HCR.out.up (by (repeat (first | exact Below.refl _ _ | exact Go.RowKit.Hid.out (by assumption) | refine Up.trans ?_ (Up.drew _) | refine Up.trans ?_ (Up.drewN _ _) | refine Up.trans ?_ (Up.alloc _ _) | refine Up.trans ?_ (Go.RowKit.Hid.out (by assumption))))), HQ.out.up (by (repeat (first | exact Below.refl _ _ | exact Go.RowKit.Hid.out (by assumption) | refine Up.trans ?_ (Up.drew _) | refine Up.trans ?_ (Up.drewN _ _) | refine Up.trans ?_ (Up.alloc _ _) | refine Up.trans ?_ (Go.RowKit.Hid.out (by assumption))))), by (repeat (first | exact Below.refl _ _ | exact Go.RowKit.Hid.out (by assumption) | refine Up.trans ?_ (Up.drew _) | refine Up.trans ?_ (Up.drewN _ _) | refine Up.trans ?_ (Up.alloc _ _) | refine Up.trans ?_ (Go.RowKit.Hid.out (by assumption))))⟩)⟩, by simp [intOf]; omega⟩
        · have hs0 : z.sign ≠ 0 := by rw [Ne, Int.sign_eq_zero_iff_zero]; exact hz0
          have HOF := Lib.hid (fun W => refOf_any 1 W (by omega) (by omega))
          have HTM := Lib.hid (fun W u1 u2 (h1 : RQ W u1 (z : Rat)) (h2 : RQ W u2 q) => refRatTimes_q u1 u2 _ _ M M W h1 h2 HB1.out.1 HB1.out.2.1 (by omega))
          have HPL := Lib.hid (fun W u1 u2 (h1 : RQ W u1 (evalQ (zs.take k) x (qs.take k))) (h2 : RQ W u2 ((z : Rat) * q)) => refRatPlus_q u1 u2 _ _ (4 * M) (2 * M) W h1 h2 HB1.out.2.2 (HB1.out.1.mul HB1.out.2.1 (by omega)) (by omega))
          rw [← HNEXT.out] at HPL
          clear HNEXT
          generalize hqe : evalQ (zs.take (k + 1)) x (qs.take (k + 1)) = q' at *
          have HQE := Lib.hid hqe
          clear hqe
          generalize evalQ (zs.take k) x (qs.take k) = q0 at *
          generalize (z : Rat) * q = qp at *
          generalize z.sign = sg at *
          obtain ⟨a0, a1, a2, a3, a4, a5, la⟩ := (HCR.out.up (w' := w2) (by (repeat (first | exact Below.refl _ _ | exact Go.RowKit.Hid.out (by assumption) | refine Up.trans ?_ (Up.drew _) | refine Up.trans ?_ (Up.drewN _ _) | refine Up.trans ?_ (Up.alloc _ _) | refine Up.trans ?_ (Go.RowKit.Hid.out (by assumption)))))).facts
          obtain ⟨v0, v1, v2, lv⟩ := (HCI.out.up (w' := w2) (by (repeat (first | exact Below.refl _ _ | exact Go.RowKit.Hid.out (by assumption) | refine Up.trans ?_ (Up.drew _) | refine Up.trans ?_ (Up.drewN _ _) | refine Up.trans ?_ (Up.alloc _ _) | refine Up.trans ?_ (Go.RowKit.Hid.out (by assumption)))))).facts
          obtain ⟨h0, h1, h2, h3, h4, h5⟩ := HD.out w2 (by (repeat (first | exact Below.refl _ _ | exact Go.RowKit.Hid.out (by assumption) | refine Up.trans ?_ (Up.drew _) | refine Up.trans ?_ (Up.drewN _ _) | refine Up.trans ?_ (Up.alloc _ _) | refine Up.trans ?_ (Go.RowKit.Hid.out (by assumption)))))
          have i0 : (0 : Int) ≤ (k : Int) := by omega
          have i1 : (k : Int) < (qs.length : Int) := by omega
          go_upto_region 6 with fail
          clear HRE HSE HST HR0 HQ0 HX HBB2 HC2 HB1 hbz hbq hbs hM hM3 HG1 HZQ HUW hs0 hz0 HSG hkq
          go_region_with
            ((first
              | (go_at_call 41
                 refine Calls.mono (HPL.out _ _ _ (HQ.out.up (by (repeat (first | exact Below.refl _ _ | exact Go.RowKit.Hid.out (by assumption) | refine Up.trans ?_ (Up.drew _) | refine Up.trans ?_ (Up.drewN _ _) | refine Up.trans ?_ (Up.alloc _ _) | refine Up.trans ?_ (Go.RowKit.Hid.out (by assumption)))))) (HVw7.out.up (by (repeat (first | exact Below.refl _ _ | exact Go.RowKit.Hid.out (by assumption) | refine Up.trans ?_ (Up.drew _) | refine Up.trans ?_ (Up.drewN _ _) | refine Up.trans ?_ (Up.alloc _ _) | refine Up.trans ?_ (Go.RowKit.Hid.out (by assumption))))))) ?_
                 rintro e w8 ⟨v, rfl, hv, hu⟩
                 have HUw8 := Lib.hid hu
                 have HVw8 := Lib.hid hv
                 obtain ⟨p1, p2, p3, p4, p5, p6, p7, p8, p9, p0, rfl, -⟩ := hv
                 clear hu
                 clear a0 a1 a2 a3 a4 a5 la v0 v1 v2 lv h0 h1 h2 h3 h4 h5
                 have HZ := Lib.hid (HCR.out.up (w' := w8) (by (repeat (first | exact Below.refl _ _ | exact Go.RowKit.Hid.out (by assumption) | refine Up.trans ?_ (Up.drew _) | refine Up.trans ?_ (Up.drewN _ _) | refine Up.trans ?_ (Up.alloc _ _) | refine Up.trans ?_ (Go.RowKit.Hid.out (by assumption))))))
                 obtain ⟨a0, a1, a2, a3, a4, a5, la⟩ := HZ.out.facts
                 obtain ⟨f0, f1, f2, f3, f4, f5⟩ := HZ.out.frozen6)
              | (go_at_call 43
                 refine Calls.mono (HTM.out _ _ _ (RI.whole (HRI.out.up (by (repeat (first | exact Below.refl _ _ | exact Go.RowKit.Hid.out (by assumption) | refine Up.trans ?_ (Up.drew _) | refine Up.trans ?_ (Up.drewN _ _) | refine Up.trans ?_ (Up.alloc _ _) | refine Up.trans ?_ (Go.RowKit.Hid.out (by assumption)))))) (HVw6.out.up (by (repeat (first | exact Below.refl _ _ | exact Go.RowKit.Hid.out (by assumption) | refine Up.trans ?_ (Up.drew _) | refine Up.trans ?_ (Up.drewN _ _) | refine Up.trans ?_ (Up.alloc _ _) | refine Up.trans ?_ (Go.RowKit.Hid.out (by assumption))))))) (HRQ.out.up (by (repeat (first | exact Below.refl _ _ | exact Go.RowKit.Hid.out (by assumption) | refine Up.trans ?_ (Up.drew _) | refine Up.trans ?_ (Up.drewN _ _) | refine Up.trans ?_ (Up.alloc _ _) | refine Up.trans ?_ (Go.RowKit.Hid.out (by assumption))))))) ?_
                 rintro e w7 ⟨v, rfl, hv, hu⟩
                 have HUw7 := Lib.hid hu
                 have HVw7 := Lib.hid hv
                 clear hu hv
                 clear a0 a1 a2 a3 a4 a5 la v0 v1 v2 lv h0 h1 h2 h3 h4 h5
                 obtain ⟨v0, v1, v2, lv⟩ := (HCI.out.up (w' := w7) (by (repeat (first | exact Below.refl _ _ | exact Go.RowKit.Hid.out (by assumption) | refine Up.trans ?_ (Up.drew _) | refine Up.trans ?_ (Up.drewN _ _) | refine Up.trans ?_ (Up.alloc _ _) | refine Up.trans ?_ (Go.RowKit.Hid.out (by assumption)))))).facts
                 obtain ⟨h0, h1, h2, h3, h4, h5⟩ := HD.out w7 (by (repeat (first | exact Below.refl _ _ | exact Go.RowKit.Hid.out (by assumption) | refine Up.trans ?_ (Up.drew _) | refine Up.trans ?_ (Up.drewN _ _) | refine Up.trans ?_ (Up.alloc _ _) | refine Up.trans ?_ (Go.RowKit.Hid.out (by assumption)))))
                 obtain ⟨a0, a1, a2, a3, a4, a5, la⟩ := (HCR.out.up (w' := w7) (by (repeat (first | exact Below.refl _ _ | exact Go.RowKit.Hid.out (by assumption) | refine Up.trans ?_ (Up.drew _) | refine Up.trans ?_ (Up.drewN _ _) | refine Up.trans ?_ (Up.alloc _ _) | refine Up.trans ?_ (Go.RowKit.Hid.out (by assumption)))))).facts)
              | (go_at_call 107
                 refine Calls.mono (HOF.out _) ?_
                 rintro e w6 ⟨v, rfl, hv, hu⟩
                 have HUw6 := Lib.hid hu
                 have HVw6 := Lib.hid hv
                 obtain ⟨s9, b9, A9, n9, c9, rfl, -⟩ := hv.open_
                 clear hu hv
                 clear a0 a1 a2 a3 a4 a5 la v0 v1 v2 lv h0 h1 h2 h3 h4 h5
                 obtain ⟨v0, v1, v2, lv⟩ := (HCI.out.up (w' := w6) (by (repeat (first | exact Below.refl _ _ | exact Go.RowKit.Hid.out (by assumption) | refine Up.trans ?_ (Up.drew _) | refine Up.trans ?_ (Up.drewN _ _) | refine Up.trans ?_ (Up.alloc _ _) | refine Up.trans ?_ (Go.RowKit.Hid.out (by assumption)))))).facts
                 obtain ⟨h0, h1, h2, h3, h4, h5⟩ := HD.out w6 (by (repeat (first | exact Below.refl _ _ | exact Go.RowKit.Hid.out (by assumption) | refine Up.trans ?_ (Up.drew _) | refine Up.trans ?_ (Up.drewN _ _) | refine Up.trans ?_ (Up.alloc _ _) | refine Up.trans ?_ (Go.RowKit.Hid.out (by assumption)))))
                 obtain ⟨a0, a1, a2, a3, a4, a5, la⟩ := (HCR.out.up (w' := w6) (by (repeat (first | exact Below.refl _ _ | exact Go.RowKit.Hid.out (by assumption) | refine Up.trans ?_ (Up.drew _) | refine Up.trans ?_ (Up.drewN _ _) | refine Up.trans ?_ (Up.alloc _ _) | refine Up.trans ?_ (Go.RowKit.Hid.out (by assumption)))))).facts)))
          all_goals
            have HSN : Hid (EvSt wB g5 q' (put6 w8 g5 (.int .i64 p1) (.bool p3) (.slice p5 p7 p8) (.int .i64 p2) (.bool p4) (.slice p6 p9 p0))) := Lib.hid ⟨_, _, _, _, _, _, _, _, _, _, HZ.out.set _ _ _ _ _ _, HVw8.out.put6 HZ.out _ _ _ _ _ _, Up.put6 (show Up wB w8 by (repeat (first | exact Below.refl _ _ | exact Go.RowKit.Hid.out (by assumption) | refine Up.trans ?_ (Up.drew _) | refine Up.trans ?_ (Up.drewN _ _) | refine Up.trans ?_ (Up.alloc _ _) | refine Up.trans ?_ (Go.RowKit.Hid.out (by assumption))))) HG5.out _ _ _ _ _ _⟩
            clear HVw8 HVw7 HVw6
            go_wp2
            exact ⟨⟨k + 1, hkl, by simp, by rw [HQE.out]; exact HSN⟩, by simp [intOf]; omega⟩
      · have hke : k = zs.length := by omega
        subst hke
        rw [List.take_of_length_le (Nat.le_refl _), List.take_of_length_le (by rw [HZQ.out]; exact Nat.le_refl _)] at HQ
        obtain ⟨a0, a1, a2, a3, a4, a5, la⟩ := HCR.out.facts
        have HR8 := Lib.hid (HR0.out.up HUP.out)
        obtain ⟨r0, r1, r2, r3, r4, r5, lr⟩ := HR8.out.facts
        obtain ⟨f0, f1, f2, f3, f4, f5⟩ := HR8.out.frozen6
        have HFF := Lib.hid ((HR8.out.set t5 d5 (.slice D5 m5 j5) t6 d6 (.slice D6 m6 j6)).facts)
        have HQF := Lib.hid (HQ.out.put6 HR8.out (.int .i64 t5) (.bool d5) (.slice D5 m5 j5) (.int .i64 t6) (.bool d6) (.slice D6 m6 j6))
        have HUF := Lib.hid (Up.put6 (HUW.out.trans HUP.out) HG1.out (.int .i64 t5) (.bool d5) (.slice D5 m5 j5) (.int .i64 t6) (.bool d6) (.slice D6 m6 j6))
        go_wp2
        obtain ⟨z0, z1, z2, z3, z4, z5, -⟩ := HFF.out
        simp only [put6] at z0 z1 z2 z3 z4 z5
        refine bodyPost_ret (by simp [results, Tryz.results44, go_sem, z0, z1, z2, z3, z4, z5]; try rfl) rfl ?_
        exact ⟨_, rfl, HQF.out, HUF.out⟩
end Go.Proofs.YtgcmogldiahdpaaGreatDoor

/- Contracts of the reference implementation: products and sums of rows. -/
import Derived.Test.YtacbjbnocepnaaaGreatDoorQHR
namespace Go.Proofs.YtacbjbnocepnaaaGreatDoor
open Go.RowKit Fm
theorem OwE.neQ {w0 w : World} {v : Value} {zs : List Int} (h : OwE eltR w0 w 48 v zs) {g : Nat} {v1 v2 : Value} {s' : Int} {b' : Bool} (hg : CellQ w g v1 s' b' v2) : ∀ k, v.ownBlock = some k → k ≠ g := by
  obtain ⟨css, h1, h2, h3⟩ := h
  intro k hk e
  subst e
  rcases h2.2 with ⟨rfl, -⟩ | ⟨g', cap, cur, rfl, hb, hgh, -⟩
  · cases hk
  · cases hk
    unfold CellQ at hg
    rw [hgh] at hg
    injection hg with hg
    injection hg with e1 e2
    exact absurd e2 (by decide)
theorem OwP.putQ {w0 w : World} {v : Value} {zs : List Int} (h : OwP eltR okR w0 w 48 v zs) {g : Nat} {v1 v2 : Value} {s' : Int} {b' : Bool} (hg : CellQ w g v1 s' b' v2) (hv : ∀ x, v1 ≠ .int .i64 x) (i : Nat) (u : Value) : OwP eltR okR w0 (w.setCell ⟨g, i, none⟩ u) 48 v zs :=
  ⟨h.1.putQ hg hv i u, h.2.far (h.1.neQ hg) i u⟩
theorem OwP.base {w0 w0' w : World} {v : Value} {zs : List Int} (h : OwP eltR okR w0 w 48 v zs) (hs : w0'.heap.size = w0.heap.size) : OwP eltR okR w0' w 48 v zs := ⟨h.1.base hs, h.2⟩
set_option maxHeartbeats 2000000 in
set_option maxRecDepth 10000 in
theorem refRowTimes_any (A A2 B : Option Addr) (c n2 c2 m j : Nat) (s t : Int) (b d : Bool) (zs : List Int) (x k : Int) (w : World) (hn : zs.length ≤ 1000000) (hr : RdE eltR w A zs) (hx : RI w (.agg #[.int .i64 s, .bool b, .slice A2 n2 c2]) x) (hk : RI w (.agg #[.int .i64 t, .bool d, .slice B m j]) k)
    (hbz : ∀ z, z ∈ zs → rl z ≤ 536870912) (hbx : rl x ≤ 536870912) (hbk : rl k ≤ 536870912) :
    Calls Tryz.prog 93 #[.agg #[.slice A zs.length c, .int .i64 s, .bool b, .slice A2 n2 c2], .agg #[.int .i64 t, .bool d, .slice B m j]] w fun e w' => ∃ v, e = .returned v ∧ RowQ w w' v (zs.map (· * k)) (x * k) ∧ Up w w' := by
  have HTX := Lib.hid (fun W (hu : Up w W) => refTimes_any _ _ x k W (hx.up hu) (hk.up hu) hbx hbk)
  have HTZ := Lib.hid (fun W u z (hu : Up w W) (h : RI W u z) (hz : rl z ≤ 536870912) => refTimes_any _ _ z k W h (hk.up hu) hz hbk)
  clear hx hk hbx hbk
  go_enter Tryz.func93, Tryz.ntmps93
  have hq0 := CellQ.new w (.slice A zs.length c) (.slice A2 n2 c2) s b
  obtain ⟨q0, q1, q2, q3, -, lq⟩ := hq0.facts
  go_wp2_with fail
  have HU1 := Lib.hid (Up.alloc w (.cells #[.slice A zs.length c, .int .i64 s, .bool b, .slice A2 n2 c2] 59))
  have hs1 := size_alloc w (.cells #[.slice A zs.length c, .int .i64 s, .bool b, .slice A2 n2 c2] 59)
  generalize w.alloc (.cells #[.slice A zs.length c, .int .i64 s, .bool b, .slice A2 n2 c2] 59) = w1 at *
  have HU2 := Lib.hid (Up.alloc w1 (.cells #[.int .i64 t, .bool d, .slice B m j] 48))
  have HK2 := Lib.hid (CellI.new w1 t d (.slice B m j))
  have hs2 := size_alloc w1 (.cells #[.int .i64 t, .bool d, .slice B m j] 48)
  generalize w1.alloc (.cells #[.int .i64 t, .bool d, .slice B m j] 48) = w2 at *
  have HU3 := Lib.hid (Up.alloc w2 (.cells #[.slice none 0 0, .int .i64 0, .bool false, .slice none 0 0] 59))
  have HR3 := Lib.hid (CellQ.new w2 (.slice none 0 0) (.slice none 0 0) 0 false)
  generalize w2.alloc (.cells #[.slice none 0 0, .int .i64 0, .bool false, .slice none 0 0] 59) = w3 at *
  obtain ⟨g0, hg0⟩ : ∃ g0, g0 = w.heap.size := ⟨_, rfl⟩
  obtain ⟨gk, hgk⟩ : ∃ gk, gk = w.heap.size + 1 := ⟨_, rfl⟩
  obtain ⟨g1, hg1⟩ : ∃ g1, g1 = w.heap.size + 1 + 1 := ⟨_, rfl⟩
  rw [← hg1, ← hgk, ← hg0]
  have HQ3 := Lib.hid (show CellQ w3 g0 (.slice A zs.length c) s b (.slice A2 n2 c2) by rw [hg0]; exact hq0.up (HU2.out.trans HU3.out))
  have HK3 := Lib.hid (show CellI w3 gk t d (.slice B m j) by rw [hgk, ← hs1]; exact HK2.out.up HU3.out)
  have HR4 := Lib.hid (show CellQ w3 g1 (.slice none 0 0) 0 false (.slice none 0 0) by rw [hg1, ← hs1, ← hs2]; exact HR3.out)
  have HG1 := Lib.hid (show w.heap.size ≤ g1 by omega)
  have HUW := Lib.hid ((HU1.out.trans HU2.out).trans HU3.out)
  clear hg0 hgk hg1 hs1 hs2 hq0 q0 q1 q2 q3 lq HU1 HU2 HU3 HK2 HR3
  refine Calls.mono (HTX.out _ HUW.out) ?_
  rintro e w4 ⟨v4, rfl, hv, hu⟩
  obtain ⟨s4, b4, A4, n4, c4, rfl, -⟩ := hv.open_
  have HV4 := Lib.hid hv
  have HU4 := Lib.hid (HUW.out.trans hu)
  have HQ4 := Lib.hid (HQ3.out.up hu)
  have HK4 := Lib.hid (HK3.out.up hu)
  have HR5 := Lib.hid (HR4.out.up hu)
  clear hu hv HQ3 HK3 HR4 HUW
  obtain ⟨q0, q1, q2, q3, -, lq⟩ := HQ4.out.facts
  obtain ⟨y0, y1, y2, ly⟩ := HK4.out.facts
  go_wp2_with fail
  have HUA := Lib.hid (Up.alloc w4 (.cells #[.slice none 0 0, .int .i64 s4, .bool b4, .slice A4 n4 c4] 59))
  have HQA := Lib.hid (CellQ.new w4 (.slice none 0 0) (.slice A4 n4 c4) s4 b4)
  obtain ⟨wA, hwA⟩ : ∃ wA, wA = w4.alloc (.cells #[.slice none 0 0, .int .i64 s4, .bool b4, .slice A4 n4 c4] 59) := ⟨_, rfl⟩
  obtain ⟨g2, hg2⟩ : ∃ g2, g2 = w4.heap.size := ⟨_, rfl⟩
  rw [← hwA] at HUA HQA ⊢
  rw [← hg2] at HQA ⊢
  have HG2 := Lib.hid (show w4.heap.size ≤ g2 by omega)
  clear hwA hg2 q0 q1 q2 q3 lq y0 y1 y2 ly
  have HRX := Lib.hid (hr.up HU4.out)
  go_loopw [16] (fun i wr => ∃ a : Nat, a ≤ zs.length ∧ i = .int .i64 a ∧ ∃ wB A5 c5, Hid (CellQ wB g2 (.slice A5 a c5) s4 b4 (.slice A4 n4 c4)) ∧ Hid (Up w4 wB) ∧ Hid (OwP eltR okR wB wr 48 (.slice A5 a c5) ((zs.take a).map (· * k))) ∧ Hid (Up wB wr)) (fun i _ => zs.length - (intOf i).toNat)
  case atStart => exact ⟨0, by omega, rfl, wA, none, 0, HQA, HUA, Lib.hid (OwP.nil _ _ _ _ _), Lib.hid (Up.refl _)⟩
  case round =>
    obtain ⟨a, ha, rfl, wB, A5, c5, HQ, HUB, HOW, HU⟩ := hrel
    obtain ⟨q0, q1, q2, q3, fz, lq⟩ := (HQ.out.up HU.out).facts
    by_cases hal : a < zs.length
    · obtain ⟨b9, off, cs, rfl, hbb, ⟨t1, d1, D1, m1, j1, rfl, hz⟩, hcell⟩ := (HRX.out.up (HUB.out.trans HU.out)).at_ hal
      have HRI := Lib.hid hz.ri
      have HBZ := Lib.hid (hbz zs[a] (List.getElem_mem hal))
      have e0 := hcell 0 _ rfl
      have e1 := hcell 1 _ rfl
      have e2 := hcell 2 _ rfl
      have HNEXT : Hid ((zs.take (a + 1)).map (· * k) = (zs.take a).map (· * k) ++ [zs[a] * k]) := Lib.hid (by rw [List.take_succ_eq_append_getElem hal, List.map_append]; rfl)
      have HLEN : Hid (((zs.take a).map (· * k)).length ≤ 1000000000) := Lib.hid (by rw [List.length_map, List.length_take]; omega)
      have HLK : Hid (((zs.take a).map (· * k) ++ [zs[a] * k]).length = a + 1) := Lib.hid (by rw [List.length_append, List.length_map, List.length_take]; simp; omega)
      clear hcell hz
      simp only [eltR, Nat.add_zero] at e0 e1 e2
      generalize zs[a] = z at *
      have HKR := Lib.hid (HK4.out.up (HUB.out.trans HU.out))
      go_upto_region 5 with fail
      have HUY := Lib.hid (Up.alloc wr (.cells #[.int .i64 t1, .bool d1, .slice D1 m1 j1] 48))
      have HCI := Lib.hid (CellI.new wr t1 d1 (.slice D1 m1 j1))
      obtain ⟨wY, hwY⟩ : ∃ wY, wY = wr.alloc (.cells #[.int .i64 t1, .bool d1, .slice D1 m1 j1] 48) := ⟨_, rfl⟩
      obtain ⟨g7, hg7⟩ : ∃ g7, g7 = wr.heap.size := ⟨_, rfl⟩
      rw [← hwY] at HUY HCI ⊢
      rw [← hg7] at HCI ⊢
      have HRY := Lib.hid (HRI.out.up HUY.out)
      have HKY := Lib.hid (HKR.out.up HUY.out)
      have HQY := Lib.hid (HQ.out.up (HU.out.trans HUY.out))
      have HOY := Lib.hid (HOW.out.up HUY.out)
      have HUV := Lib.hid (HU4.out.trans (HUB.out.trans (HU.out.trans HUY.out)))
      have HUX := Lib.hid (HU.out.trans HUY.out)
      clear hwY hg7 e0 e1 e2 hbb q0 q1 q2 q3 fz lq
      obtain ⟨q0, q1, q2, q3, fz, lq⟩ := HQY.out.facts
      obtain ⟨t0, t1', t2, lt⟩ := HCI.out.facts
      obtain ⟨y0, y1, y2, ly⟩ := HKY.out.facts
      have i0 : (0 : Int) ≤ (a : Int) := by omega
      have HTW := Lib.hid (fun W u (hu : Up wY W) (h : RI W u z) => HTZ.out W u z (HUV.out.trans hu) h HBZ.out)
      clear HUY HUV
      go_region_law
        ((first
          | (go_simp
             go_at_call 71
             refine Calls.mono (HTW.out _ _ (by (repeat (first | exact Below.refl _ _ | exact Hid.out (by assumption) | refine Up.trans ?_ (Up.drew _) | refine Up.trans ?_ (Up.drewN _ _) | refine Up.trans ?_ (Up.alloc _ _) | refine Up.trans ?_ (Hid.out (by assumption))))) (HRY.out.up (by (repeat (first | exact Below.refl _ _ | exact Hid.out (by assumption) | refine Up.trans ?_ (Up.drew _) | refine Up.trans ?_ (Up.drewN _ _) | refine Up.trans ?_ (Up.alloc _ _) | refine Up.trans ?_ (Hid.out (by assumption))))))) ?_
             rintro e w5 ⟨v5, rfl, hv, hu⟩
             have HU5 := Lib.hid hu
             have HV5 := Lib.hid hv
             obtain ⟨s5, b5, A6, n6, c6, rfl, -⟩ := hv.open_
             obtain ⟨q0, q1, q2, q3, fz, lq⟩ := (HQY.out.up (w' := w5) (by (repeat (first | exact Below.refl _ _ | exact Hid.out (by assumption) | refine Up.trans ?_ (Up.drew _) | refine Up.trans ?_ (Up.drewN _ _) | refine Up.trans ?_ (Up.alloc _ _) | refine Up.trans ?_ (Hid.out (by assumption)))))).facts
             obtain ⟨t0, t1', t2, lt⟩ := (HCI.out.up (w' := w5) (by (repeat (first | exact Below.refl _ _ | exact Hid.out (by assumption) | refine Up.trans ?_ (Up.drew _) | refine Up.trans ?_ (Up.drewN _ _) | refine Up.trans ?_ (Up.alloc _ _) | refine Up.trans ?_ (Hid.out (by assumption)))))).facts
             obtain ⟨y0, y1, y2, ly⟩ := (HKY.out.up (w' := w5) (by (repeat (first | exact Below.refl _ _ | exact Hid.out (by assumption) | refine Up.trans ?_ (Up.drew _) | refine Up.trans ?_ (Up.drewN _ _) | refine Up.trans ?_ (Up.alloc _ _) | refine Up.trans ?_ (Hid.out (by assumption)))))).facts
             clear hu hv)
          | (have HPP := Lib.hid (HOY.out.up (w' := w5.alloc (.cells #[.int .i64 s5, .bool b5, .slice A6 n6 c6] 48)) (by (repeat (first | exact Below.refl _ _ | exact Hid.out (by assumption) | refine Up.trans ?_ (Up.drew _) | refine Up.trans ?_ (Up.drewN _ _) | refine Up.trans ?_ (Up.alloc _ _) | refine Up.trans ?_ (Hid.out (by assumption))))))
             refine step_pushP eltR okR wB rfl (.tmp 21) (.tmp 25) 57 48 rfl _ 40 Tryz.underlying57 info_ri rfl zri_nod okR_zero (by decide) _ ((zs.take a).map (· * k)) rfl HPP.out (HUX.out.trans (by (repeat (first | exact Below.refl _ _ | exact Hid.out (by assumption) | refine Up.trans ?_ (Up.drew _) | refine Up.trans ?_ (Up.drewN _ _) | refine Up.trans ?_ (Up.alloc _ _) | refine Up.trans ?_ (Hid.out (by assumption)))))) ⟨w5.heap.size, 0, none⟩ rfl [.int .i64 s5, .bool b5, .slice A6 n6 c6] (z * k) (fun j u h => new_cells w5 [.int .i64 s5, .bool b5, .slice A6 n6 c6] _ j u h) ((HV5.out.up (Up.alloc _ _)).eltP HPP.out.2) okR_elt HLEN.out ?_
             intro v' w' hown' hup'
             have HOW' := Lib.hid hown'
             have HU' := Lib.hid hup'
             obtain ⟨A8, c8, e8, -⟩ := hown'.1.read eltR_none
             rw [HLK.out] at e8
             subst e8
             obtain ⟨q0, q1, q2, q3, fz, lq⟩ := (HQ.out.up hup').facts
             clear hown' hup')))
      all_goals
        clear t0 t1' t2 lt y0 y1 y2 ly q0 q1 q2 q3 fz lq
        go_wp2
        exact ⟨⟨a + 1, by omega, by simp, wB.setCell ⟨g2, 0, none⟩ (.slice A8 (a + 1) c8), A8, c8, Lib.hid (HQ.out.set _), Lib.hid (Below.setCell (p := ⟨g2, 0, none⟩) HUB.out HG2.out _), Lib.hid (((by rw [HNEXT.out]; exact HOW'.out : OwP eltR okR wB w' 48 (.slice A8 (a + 1) c8) ((zs.take (a + 1)).map (· * k))).putQ (HQ.out.up HU'.out) (fun x e => by cases e) 0 _).base (setCell_size _ _ _)), Lib.hid (HU'.out.both g2 0 _)⟩, by simp [intOf]; omega⟩
    · have hae : a = zs.length := by omega
      subst hae
      rw [List.take_length] at HOW
      have HUA2 := Lib.hid (HUB.out.trans HU.out)
      have HQF := Lib.hid (HR5.out.up HUA2.out)
      obtain ⟨r0, r1, r2, r3, -, lr⟩ := HQF.out.facts
      obtain ⟨f0, f1, f2, f3⟩ := HQF.out.frz
      have HFF := Lib.hid ((HQF.out.put (.slice A5 zs.length c5) s4 b4 (.slice A4 n4 c4)).facts)
      have HLO := Lib.hid (HOW.out.1.putRow HQF.out (fun x e => by cases e) (.slice A5 zs.length c5) (fun x e => by cases e) s4 b4 (.slice A4 n4 c4))
      have HRO := Lib.hid (((HV4.out.up HUA2.out).ria).putRow HQF.out (fun x e => by cases e) (.slice A5 zs.length c5) (fun x e => by cases e) s4 b4 (.slice A4 n4 c4))
      have HUF := Lib.hid ((HU4.out.trans HUA2.out).putQ HG1.out (.slice A5 zs.length c5) s4 b4 (.slice A4 n4 c4))
      have HSZ := Lib.hid ((HU4.out.trans HUB.out).size)
      have HLL : Hid ((zs.map (· * k)).length = zs.length) := Lib.hid (by rw [List.length_map])
      go_wp2
      obtain ⟨z0, z1, z2, z3, -, -⟩ := HFF.out
      simp only [rowSet] at z0 z1 z2 z3
      refine bodyPost_ret (by simp [results, Tryz.results93, go_sem, z0, z1, z2, z3]; try rfl) rfl ?_
      obtain ⟨A9, c9, e9, l1, l2, l3, l4⟩ := HLO.out.read eltR_none
      rw [HLL.out] at e9 l1
      cases e9
      exact ⟨_, rfl, ⟨A5, c5, s4, b4, A4, n4, c4, by rw [HLL.out], by rw [HLL.out]; exact l1, l2, l3, HRO.out.ri, fun b off e => Nat.le_trans HSZ.out (l4 b off e)⟩, HUF.out⟩
end Go.Proofs.YtacbjbnocepnaaaGreatDoor
namespace Go.Proofs.YtacbjbnocepnaaaGreatDoor
open Go.RowKit Fm
set_option maxHeartbeats 2000000 in
set_option maxRecDepth 10000 in
theorem refRowPlus_any (A A2 E B : Option Addr) (c n2 c2 f m j : Nat) (s t : Int) (b d : Bool) (zs ys : List Int) (x k : Int) (w : World) (hn : zs.length ≤ 1000000) (hzy : zs.length = ys.length) (hr : RdE eltR w A zs) (hr2 : RdE eltR w E ys) (hx : RI w (.agg #[.int .i64 s, .bool b, .slice A2 n2 c2]) x) (hk : RI w (.agg #[.int .i64 t, .bool d, .slice B m j]) k)
    (hbz : ∀ z, z ∈ zs → rl z ≤ 536870912) (hby : ∀ y, y ∈ ys → rl y ≤ 536870912) (hbx : rl x ≤ 536870912) (hbk : rl k ≤ 536870912) :
    Calls Tryz.prog 92 #[.agg #[.slice A zs.length c, .int .i64 s, .bool b, .slice A2 n2 c2], .agg #[.slice E ys.length f, .int .i64 t, .bool d, .slice B m j]] w fun e w' => ∃ v, e = .returned v ∧ RowQ w w' v (List.zipWith (· + ·) zs ys) (x + k) ∧ Up w w' := by
  have HTX := Lib.hid (fun W (hu : Up w W) => refPlus_any _ _ x k W (hx.up hu) (hk.up hu) hbx hbk)
  have HTZ := Lib.hid (fun W u v z y (h : RI W u z) (h2 : RI W v y) (hz : rl z ≤ 536870912) (hy : rl y ≤ 536870912) => refPlus_any u v z y W h h2 hz hy)
  have HZY := Lib.hid hzy
  rw [← hzy]
  clear hx hk hbx hbk hzy
  go_enter Tryz.func92, Tryz.ntmps92
  have hq0 := CellQ.new w (.slice A zs.length c) (.slice A2 n2 c2) s b
  obtain ⟨q0, q1, q2, q3, -, lq⟩ := hq0.facts
  go_wp2_with fail
  have HU1 := Lib.hid (Up.alloc w (.cells #[.slice A zs.length c, .int .i64 s, .bool b, .slice A2 n2 c2] 59))
  have hs1 := size_alloc w (.cells #[.slice A zs.length c, .int .i64 s, .bool b, .slice A2 n2 c2] 59)
  generalize w.alloc (.cells #[.slice A zs.length c, .int .i64 s, .bool b, .slice A2 n2 c2] 59) = w1 at *
  have HU2 := Lib.hid (Up.alloc w1 (.cells #[.slice E zs.length f, .int .i64 t, .bool d, .slice B m j] 59))
  have HK2 := Lib.hid (CellQ.new w1 (.slice E zs.length f) (.slice B m j) t d)
  have hs2 := size_alloc w1 (.cells #[.slice E zs.length f, .int .i64 t, .bool d, .slice B m j] 59)
  generalize w1.alloc (.cells #[.slice E zs.length f, .int .i64 t, .bool d, .slice B m j] 59) = w2 at *
  have HU3 := Lib.hid (Up.alloc w2 (.cells #[.slice none 0 0, .int .i64 0, .bool false, .slice none 0 0] 59))
  have HR3 := Lib.hid (CellQ.new w2 (.slice none 0 0) (.slice none 0 0) 0 false)
  generalize w2.alloc (.cells #[.slice none 0 0, .int .i64 0, .bool false, .slice none 0 0] 59) = w3 at *
  obtain ⟨g0, hg0⟩ : ∃ g0, g0 = w.heap.size := ⟨_, rfl⟩
  obtain ⟨gk, hgk⟩ : ∃ gk, gk = w.heap.size + 1 := ⟨_, rfl⟩
  obtain ⟨g1, hg1⟩ : ∃ g1, g1 = w.heap.size + 1 + 1 := ⟨_, rfl⟩
  rw [← hg1, ← hgk, ← hg0]
  have HQ3 := Lib.hid (show CellQ w3 g0 (.slice A zs.length c) s b (.slice A2 n2 c2) by rw [hg0]; exact hq0.up (HU2.out.trans HU3.out))
  have HK3 := Lib.hid (show CellQ w3 gk (.slice E zs.length f) t d (.slice B m j) by rw [hgk, ← hs1]; exact HK2.out.up HU3.out)
  have HR4 := Lib.hid (show CellQ w3 g1 (.slice none 0 0) 0 false (.slice none 0 0) by rw [hg1, ← hs1, ← hs2]; exact HR3.out)
  have HG1 := Lib.hid (show w.heap.size ≤ g1 by omega)
  have HUW := Lib.hid ((HU1.out.trans HU2.out).trans HU3.out)
  clear hg0 hgk hg1 hs1 hs2 hq0 q0 q1 q2 q3 lq HU1 HU2 HU3 HK2 HR3
  refine Calls.mono (HTX.out _ HUW.out) ?_
  rintro e w4 ⟨v4, rfl, hv, hu⟩
  obtain ⟨s4, b4, A4, n4, c4, rfl, -⟩ := hv.open_
  have HV4 := Lib.hid hv
  have HU4 := Lib.hid (HUW.out.trans hu)
  have HQ4 := Lib.hid (HQ3.out.up hu)
  have HK4 := Lib.hid (HK3.out.up hu)
  have HR5 := Lib.hid (HR4.out.up hu)
  clear hu hv HQ3 HK3 HR4 HUW
  obtain ⟨q0, q1, q2, q3, -, lq⟩ := HQ4.out.facts
  go_wp2_with fail
  have HUA := Lib.hid (Up.alloc w4 (.cells #[.slice none 0 0, .int .i64 s4, .bool b4, .slice A4 n4 c4] 59))
  have HQA := Lib.hid (CellQ.new w4 (.slice none 0 0) (.slice A4 n4 c4) s4 b4)
  obtain ⟨wA, hwA⟩ : ∃ wA, wA = w4.alloc (.cells #[.slice none 0 0, .int .i64 s4, .bool b4, .slice A4 n4 c4] 59) := ⟨_, rfl⟩
  obtain ⟨g2, hg2⟩ : ∃ g2, g2 = w4.heap.size := ⟨_, rfl⟩
  rw [← hwA] at HUA HQA ⊢
  rw [← hg2] at HQA ⊢
  have HG2 := Lib.hid (show w4.heap.size ≤ g2 by omega)
  clear hwA hg2 q0 q1 q2 q3 lq
  have HRX := Lib.hid (hr.up HU4.out)
  have HRW := Lib.hid (hr2.up HU4.out)
  go_loopw [17] (fun i wr => ∃ a : Nat, a ≤ zs.length ∧ i = .int .i64 a ∧ ∃ wB A5 c5, Hid (CellQ wB g2 (.slice A5 a c5) s4 b4 (.slice A4 n4 c4)) ∧ Hid (Up w4 wB) ∧ Hid (OwP eltR okR wB wr 48 (.slice A5 a c5) ((List.zipWith (· + ·) zs ys).take a)) ∧ Hid (Up wB wr)) (fun i _ => zs.length - (intOf i).toNat)
  case atStart => exact ⟨0, by omega, rfl, wA, none, 0, HQA, HUA, Lib.hid (OwP.nil _ _ _ _ _), Lib.hid (Up.refl _)⟩
  case round =>
    obtain ⟨a, ha, rfl, wB, A5, c5, HQ, HUB, HOW, HU⟩ := hrel
    obtain ⟨q0, q1, q2, q3, fz, lq⟩ := (HQ.out.up HU.out).facts
    by_cases hal : a < zs.length
    · obtain ⟨b9, off, cs, rfl, hbb, ⟨t1, d1, D1, m1, j1, rfl, hz⟩, hcell⟩ := (HRX.out.up (HUB.out.trans HU.out)).at_ hal
      have HRI := Lib.hid hz.ri
      have HBZ := Lib.hid (hbz zs[a] (List.getElem_mem hal))
      have e0 := hcell 0 _ rfl
      have e1 := hcell 1 _ rfl
      have e2 := hcell 2 _ rfl
      have hal2 : a < ys.length := by have := HZY.out; omega
      have hzl : (List.zipWith (· + ·) zs ys).length = zs.length := by rw [List.length_zipWith]; have := HZY.out; omega
      have HNEXT : Hid ((List.zipWith (· + ·) zs ys).take (a + 1) = (List.zipWith (· + ·) zs ys).take a ++ [zs[a] + ys[a]]) := Lib.hid (by
        rw [List.take_succ_eq_append_getElem (by rw [hzl]; exact hal), List.getElem_zipWith])
      have HLEN : Hid (((List.zipWith (· + ·) zs ys).take a).length ≤ 1000000000) := Lib.hid (by rw [List.length_take, hzl]; omega)
      have HLK : Hid (((List.zipWith (· + ·) zs ys).take a ++ [zs[a] + ys[a]]).length = a + 1) := Lib.hid (by rw [List.length_append, List.length_take, hzl]; simp; omega)
      obtain ⟨b8, off2, cs2, rfl, hbb2, ⟨t8, d8, D8, m8, j8, rfl, hz2⟩, hcell2⟩ := (HRW.out.up (HUB.out.trans HU.out)).at_ hal2
      have HRI2 := Lib.hid hz2.ri
      have HBY := Lib.hid (hby ys[a] (List.getElem_mem hal2))
      have HD8 := Lib.hid (fun W (hu : Up wr W) => And.intro ((hu.cells.1 _ _ hbb2).trans (hcell2 0 _ rfl)) (And.intro ((hu.cells.1 _ _ hbb2).trans (hcell2 1 _ rfl)) ((hu.cells.1 _ _ hbb2).trans (hcell2 2 _ rfl))))
      simp only [eltR, Nat.add_zero] at HD8
      generalize ys[a] = y at *
      clear hcell2 hz2 hbb2 hzl hal2
      clear hcell hz
      simp only [eltR, Nat.add_zero] at e0 e1 e2
      generalize zs[a] = z at *
      have HKR := Lib.hid (HK4.out.up (HUB.out.trans HU.out))
      go_upto_region 5 with fail
      have HUY := Lib.hid (Up.alloc wr (.cells #[.int .i64 t1, .bool d1, .slice D1 m1 j1] 48))
      have HCI := Lib.hid (CellI.new wr t1 d1 (.slice D1 m1 j1))
      obtain ⟨wY, hwY⟩ : ∃ wY, wY = wr.alloc (.cells #[.int .i64 t1, .bool d1, .slice D1 m1 j1] 48) := ⟨_, rfl⟩
      obtain ⟨g7, hg7⟩ : ∃ g7, g7 = wr.heap.size := ⟨_, rfl⟩
      rw [← hwY] at HUY HCI ⊢
      rw [← hg7] at HCI ⊢
      have HRY := Lib.hid (HRI.out.up HUY.out)
      have HKY := Lib.hid (HKR.out.up HUY.out)
      have HRY2 := Lib.hid (HRI2.out.up HUY.out)
      have HD9 := Lib.hid (fun W (hu : Up wY W) => HD8.out W (HUY.out.trans hu))
      have HQY := Lib.hid (HQ.out.up (HU.out.trans HUY.out))
      have HOY := Lib.hid (HOW.out.up HUY.out)
      have HUV := Lib.hid (HU4.out.trans (HUB.out.trans (HU.out.trans HUY.out)))
      have HUX := Lib.hid (HU.out.trans HUY.out)
      clear hwY hg7 e0 e1 e2 hbb q0 q1 q2 q3 fz lq
      obtain ⟨q0, q1, q2, q3, fz, lq⟩ := HQY.out.facts
      obtain ⟨t0, t1', t2, lt⟩ := HCI.out.facts
      obtain ⟨y0, y1, y2, y3, -, ly⟩ := HKY.out.facts
      obtain ⟨w80, w81, w82⟩ := HD9.out wY (Up.refl _)
      have i1 : (a : Int) < (zs.length : Int) := by omega
      have i0 : (0 : Int) ≤ (a : Int) := by omega
      have HTW := Lib.hid (fun W u v (h : RI W u z) (h2 : RI W v y) => HTZ.out W u v z y h h2 HBZ.out HBY.out)
      clear HUY HUV
      go_region_law
        ((first
          | (go_simp
             go_at_call 72
             refine Calls.mono (HTW.out _ _ _ (HRY.out.up (by (repeat (first | exact Below.refl _ _ | exact Hid.out (by assumption) | refine Up.trans ?_ (Up.drew _) | refine Up.trans ?_ (Up.drewN _ _) | refine Up.trans ?_ (Up.alloc _ _) | refine Up.trans ?_ (Hid.out (by assumption)))))) (HRY2.out.up (by (repeat (first | exact Below.refl _ _ | exact Hid.out (by assumption) | refine Up.trans ?_ (Up.drew _) | refine Up.trans ?_ (Up.drewN _ _) | refine Up.trans ?_ (Up.alloc _ _) | refine Up.trans ?_ (Hid.out (by assumption))))))) ?_
             rintro e w5 ⟨v5, rfl, hv, hu⟩
             have HU5 := Lib.hid hu
             have HV5 := Lib.hid hv
             obtain ⟨s5, b5, A6, n6, c6, rfl, -⟩ := hv.open_
             obtain ⟨q0, q1, q2, q3, fz, lq⟩ := (HQY.out.up (w' := w5) (by (repeat (first | exact Below.refl _ _ | exact Hid.out (by assumption) | refine Up.trans ?_ (Up.drew _) | refine Up.trans ?_ (Up.drewN _ _) | refine Up.trans ?_ (Up.alloc _ _) | refine Up.trans ?_ (Hid.out (by assumption)))))).facts
             obtain ⟨t0, t1', t2, lt⟩ := (HCI.out.up (w' := w5) (by (repeat (first | exact Below.refl _ _ | exact Hid.out (by assumption) | refine Up.trans ?_ (Up.drew _) | refine Up.trans ?_ (Up.drewN _ _) | refine Up.trans ?_ (Up.alloc _ _) | refine Up.trans ?_ (Hid.out (by assumption)))))).facts
             obtain ⟨y0, y1, y2, y3, -, ly⟩ := (HKY.out.up (w' := w5) (by (repeat (first | exact Below.refl _ _ | exact Hid.out (by assumption) | refine Up.trans ?_ (Up.drew _) | refine Up.trans ?_ (Up.drewN _ _) | refine Up.trans ?_ (Up.alloc _ _) | refine Up.trans ?_ (Hid.out (by assumption)))))).facts
             obtain ⟨w80, w81, w82⟩ := HD9.out w5 (by (repeat (first | exact Below.refl _ _ | exact Hid.out (by assumption) | refine Up.trans ?_ (Up.drew _) | refine Up.trans ?_ (Up.drewN _ _) | refine Up.trans ?_ (Up.alloc _ _) | refine Up.trans ?_ (Hid.out (by assumption)))))
             clear hu hv)
          | (have HPP := Lib.hid (HOY.out.up (w' := w5.alloc (.cells #[.int .i64 s5, .bool b5, .slice A6 n6 c6] 48)) (by (repeat (first | exact Below.refl _ _ | exact Hid.out (by assumption) | refine Up.trans ?_ (Up.drew _) | refine Up.trans ?_ (Up.drewN _ _) | refine Up.trans ?_ (Up.alloc _ _) | refine Up.trans ?_ (Hid.out (by assumption))))))
             refine step_pushP eltR okR wB rfl (.tmp 23) (.tmp 31) 57 48 rfl _ 40 Tryz.underlying57 info_ri rfl zri_nod okR_zero (by decide) _ ((List.zipWith (· + ·) zs ys).take a) rfl HPP.out (HUX.out.trans (by (repeat (first | exact Below.refl _ _ | exact Hid.out (by assumption) | refine Up.trans ?_ (Up.drew _) | refine Up.trans ?_ (Up.drewN _ _) | refine Up.trans ?_ (Up.alloc _ _) | refine Up.trans ?_ (Hid.out (by assumption)))))) ⟨w5.heap.size, 0, none⟩ rfl [.int .i64 s5, .bool b5, .slice A6 n6 c6] (z + y) (fun j u h => new_cells w5 [.int .i64 s5, .bool b5, .slice A6 n6 c6] _ j u h) ((HV5.out.up (Up.alloc _ _)).eltP HPP.out.2) okR_elt HLEN.out ?_
             intro v' w' hown' hup'
             have HOW' := Lib.hid hown'
             have HU' := Lib.hid hup'
             obtain ⟨A8, c8, e8, -⟩ := hown'.1.read eltR_none
             rw [HLK.out] at e8
             subst e8
             obtain ⟨q0, q1, q2, q3, fz, lq⟩ := (HQ.out.up hup').facts
             clear hown' hup')))
      all_goals
        clear t0 t1' t2 lt y0 y1 y2 y3 ly w80 w81 w82 q0 q1 q2 q3 fz lq
        go_wp2
        exact ⟨⟨a + 1, by omega, by simp, wB.setCell ⟨g2, 0, none⟩ (.slice A8 (a + 1) c8), A8, c8, Lib.hid (HQ.out.set _), Lib.hid (Below.setCell (p := ⟨g2, 0, none⟩) HUB.out HG2.out _), Lib.hid (((by rw [HNEXT.out]; exact HOW'.out : OwP eltR okR wB w' 48 (.slice A8 (a + 1) c8) ((List.zipWith (· + ·) zs ys).take (a + 1))).putQ (HQ.out.up HU'.out) (fun x e => by cases e) 0 _).base (setCell_size _ _ _)), Lib.hid (HU'.out.both g2 0 _)⟩, by simp [intOf]; omega⟩
    · have hae : a = zs.length := by omega
      subst hae
      rw [List.take_of_length_le (by rw [List.length_zipWith]; have := HZY.out; omega)] at HOW
      have HUA2 := Lib.hid (HUB.out.trans HU.out)
      have HQF := Lib.hid (HR5.out.up HUA2.out)
      obtain ⟨r0, r1, r2, r3, -, lr⟩ := HQF.out.facts
      obtain ⟨f0, f1, f2, f3⟩ := HQF.out.frz
      have HFF := Lib.hid ((HQF.out.put (.slice A5 zs.length c5) s4 b4 (.slice A4 n4 c4)).facts)
      have HLO := Lib.hid (HOW.out.1.putRow HQF.out (fun x e => by cases e) (.slice A5 zs.length c5) (fun x e => by cases e) s4 b4 (.slice A4 n4 c4))
      have HRO := Lib.hid (((HV4.out.up HUA2.out).ria).putRow HQF.out (fun x e => by cases e) (.slice A5 zs.length c5) (fun x e => by cases e) s4 b4 (.slice A4 n4 c4))
      have HUF := Lib.hid ((HU4.out.trans HUA2.out).putQ HG1.out (.slice A5 zs.length c5) s4 b4 (.slice A4 n4 c4))
      have HSZ := Lib.hid ((HU4.out.trans HUB.out).size)
      have HLL : Hid ((List.zipWith (· + ·) zs ys).length = zs.length) := Lib.hid (by rw [List.length_zipWith]; have := HZY.out; omega)
      go_wp2
      obtain ⟨z0, z1, z2, z3, -, -⟩ := HFF.out
      simp only [rowSet] at z0 z1 z2 z3
      refine bodyPost_ret (by simp [results, Tryz.results92, go_sem, z0, z1, z2, z3]; try rfl) rfl ?_
      obtain ⟨A9, c9, e9, l1, l2, l3, l4⟩ := HLO.out.read eltR_none
      rw [HLL.out] at e9 l1
      cases e9
      exact ⟨_, rfl, ⟨A5, c5, s4, b4, A4, n4, c4, by rw [HLL.out], by rw [HLL.out]; exact l1, l2, l3, HRO.out.ri, fun b off e => Nat.le_trans HSZ.out (l4 b off e)⟩, HUF.out⟩
end Go.Proofs.YtacbjbnocepnaaaGreatDoor

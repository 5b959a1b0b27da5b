/- Contracts of the parts of the combination of the reference implementation. -/
import Derived.Test.YtacbjbnocepnaaaGreatDoorQHT
import Derived.Test.YtacbjbnocepnaaaGreatDoorQHJ
import Derived.Test.YtacbjbnocepnaaaGreatDoorQHG
import Derived.Test.YtacbjbnocepnaaaGreatDoorQHL
namespace Go.Proofs.YtacbjbnocepnaaaGreatDoor
open Go.RowKit Fm
set_option maxHeartbeats 1000000 in
set_option maxRecDepth 10000 in
theorem refValidForms_any (A : Option Addr) (c : Nat) (n : Int) (fs : List (List Int × Int)) (w : World) (hc : fs.length ≤ 9223372036854775807) (hr : RdE eltForm w A fs) :
    Calls Tryz.prog 45 #[.int .i64 n, .slice A fs.length c] w fun e w' => e = .returned (.bool (validFs n fs)) ∧ Up w w' := by
  have HE : Hid (validFs n fs = (dimI n && decide (fs.length ≤ 120) && fs.all (validF n))) := Lib.hid rfl
  by_cases h0 : 0 ≤ n
  · by_cases h8 : n ≤ 8
    · by_cases h2 : fs.length ≤ 120
      · have HE2 : Hid (validFs n fs = fs.all (validF n)) := Lib.hid (by rw [HE.out]; simp [dimI, h0, h8, h2])
        have i1 : ¬ (120 : Int) < (fs.length : Int) := by omega
        clear HE h2
        go_enter Tryz.func45, Tryz.ntmps45
        go_wp2
        go_loopw [20] (fun i wr => ∃ k : Nat, k ≤ fs.length ∧ i = .int .i64 k ∧ Hid ((fs.take k).all (validF n) = true) ∧ Hid (Up w wr)) (fun i _ => fs.length - (intOf i).toNat)
        case atStart => exact ⟨0, by omega, rfl, Lib.hid rfl, Lib.hid (Up.refl _)⟩
        case round =>
          obtain ⟨k, hk, rfl, HK, HUR⟩ := hrel
          by_cases hkl : k < fs.length
          · obtain ⟨b, off, B, c', rfl, hbb, c0, c1, h3, h4, h5⟩ := (hr.up HUR.out).f hkl
            have HI := Lib.hid (fun W (hu : Up wr W) => refValidForm_any B c' n fs[k] W (Nat.le_trans h3 h4) (h5.up hu))
            have HNEXT : Hid ((fs.take (k + 1)).all (validF n) = validF n fs[k]) := Lib.hid (by
              rw [List.take_succ_eq_append_getElem hkl, List.all_append, HK.out]; simp)
            have HFALSE : Hid (validF n fs[k] = false → fs.all (validF n) = false) := Lib.hid (fun h => by
              rw [List.all_eq_false]
              exact ⟨fs[k], List.getElem_mem hkl, by simp [h]⟩)
            clear h3 h4 h5
            generalize fs[k] = f at *
            have HUY := Lib.hid (Up.alloc wr (.cells #[.slice B f.1.length c', .int .i64 f.2] 28))
            go_wp2_with fail
            refine Calls.mono (HI.out _ HUY.out) ?_
            rintro e w3 ⟨rfl, hu⟩
            have HU3 := Lib.hid hu
            clear hu c0 c1 hbb
            rcases h4 : validF n f with _ | _
            · have HF := Lib.hid (HFALSE.out h4)
              clear h4 HNEXT HFALSE
              go_wp2
              go_ret
              exact ⟨by rw [HE2.out, HF.out]; rfl, by (repeat (first | exact Below.refl _ _ | exact Hid.out (by assumption) | refine Up.trans ?_ (Up.drew _) | refine Up.trans ?_ (Up.drewN _ _) | refine Up.trans ?_ (Up.alloc _ _) | refine Up.trans ?_ (Hid.out (by assumption))))⟩
            · rw [h4] at HNEXT
              clear h4 HFALSE
              go_wp2_with fail
              exact ⟨⟨k + 1, by omega, by simp, HNEXT, Lib.hid (by (repeat (first | exact Below.refl _ _ | exact Hid.out (by assumption) | refine Up.trans ?_ (Up.drew _) | refine Up.trans ?_ (Up.drewN _ _) | refine Up.trans ?_ (Up.alloc _ _) | refine Up.trans ?_ (Hid.out (by assumption)))))⟩, by simp [intOf]; omega⟩
          · have HA2 : Hid (fs.all (validF n) = true) := Lib.hid (by
              have := HK.out
              rwa [List.take_of_length_le (by omega)] at this)
            go_wp2
            go_ret
            exact ⟨by rw [HE2.out, HA2.out]; rfl, by (repeat (first | exact Below.refl _ _ | exact Hid.out (by assumption) | refine Up.trans ?_ (Up.drew _) | refine Up.trans ?_ (Up.drewN _ _) | refine Up.trans ?_ (Up.alloc _ _) | refine Up.trans ?_ (Hid.out (by assumption))))⟩
      · have HE2 : Hid (validFs n fs = false) := Lib.hid (by rw [HE.out]; simp [h2])
        have i1 : (120 : Int) < (fs.length : Int) := by omega
        clear HE h2
        go_enter Tryz.func45, Tryz.ntmps45
        go_wp2
        go_ret
        exact ⟨by rw [HE2.out]; rfl, by (repeat (first | exact Below.refl _ _ | exact Hid.out (by assumption) | refine Up.trans ?_ (Up.drew _) | refine Up.trans ?_ (Up.drewN _ _) | refine Up.trans ?_ (Up.alloc _ _) | refine Up.trans ?_ (Hid.out (by assumption))))⟩
    · have HE2 : Hid (validFs n fs = false) := Lib.hid (by rw [HE.out]; simp [dimI, h8])
      have i1 : 8 < n := by omega
      clear HE h8
      go_enter Tryz.func45, Tryz.ntmps45
      go_wp2
      go_ret
      exact ⟨by rw [HE2.out]; rfl, by (repeat (first | exact Below.refl _ _ | exact Hid.out (by assumption) | refine Up.trans ?_ (Up.drew _) | refine Up.trans ?_ (Up.drewN _ _) | refine Up.trans ?_ (Up.alloc _ _) | refine Up.trans ?_ (Hid.out (by assumption))))⟩
  · have HE2 : Hid (validFs n fs = false) := Lib.hid (by rw [HE.out]; simp [dimI, h0])
    have i1 : n < 0 := by omega
    clear HE h0
    go_enter Tryz.func45, Tryz.ntmps45
    go_wp2
    go_ret
    exact ⟨by rw [HE2.out]; rfl, by (repeat (first | exact Below.refl _ _ | exact Hid.out (by assumption) | refine Up.trans ?_ (Up.drew _) | refine Up.trans ?_ (Up.drewN _ _) | refine Up.trans ?_ (Up.alloc _ _) | refine Up.trans ?_ (Hid.out (by assumption))))⟩
end Go.Proofs.YtacbjbnocepnaaaGreatDoor
namespace Go.Proofs.YtacbjbnocepnaaaGreatDoor
open Go.RowKit Fm
end Go.Proofs.YtacbjbnocepnaaaGreatDoor
namespace Go.Proofs.YtacbjbnocepnaaaGreatDoor
open Go.RowKit Fm
end Go.Proofs.YtacbjbnocepnaaaGreatDoor
namespace Go.Proofs.YtacbjbnocepnaaaGreatDoor
open Go.RowKit Fm
set_option maxHeartbeats 1000000 in
set_option maxRecDepth 10000 in
theorem refFrom_bad (A A2 : Option Addr) (c c2 n2 : Nat) (s : Int) (b : Bool) (zs : List Int) (x : Int) (w : World) (hn : zs.length ≤ 8) (hr : RdE eltR w A zs) (hx : RI w (.agg #[.int .i64 s, .bool b, .slice A2 n2 c2]) x) (hz : (zs.all limI && limI x) = false) :
    Calls Tryz.prog 49 #[.agg #[.slice A zs.length c, .int .i64 s, .bool b, .slice A2 n2 c2]] w fun e w' => e = .returned (.tuple #[.agg #[.slice none 0 0, .int .i64 0], .bool false]) ∧ Up w w' := by
  have hmk : ∀ W, (Instr.makeSlice 26 (.int .i64 (zs.length : Int)) (.int .i64 (zs.length : Int))).run Tryz.prog W = .ok (.slice (some ⟨W.heap.size, 0, none⟩) zs.length zs.length) (W.alloc (.cells (iCells (List.replicate zs.length 0)) 3)) := fun W => mkInts zs.length (by omega) W
  have HXS := Lib.hid (fun W (hu : Up w W) => refSmall_any' _ x W (hx.up hu))
  have HZL : Hid ((zs.all limI && smallOk x) = false) := Lib.hid hz
  have HML : Hid ((zs.map fun z => if smallOk z then z else 0).length = zs.length) := Lib.hid (by rw [List.length_map])
  clear hz hx
  go_enter Tryz.func49, Tryz.ntmps49
  have hq0 := CellQ.new w (.slice A zs.length c) (.slice A2 n2 c2) s b
  obtain ⟨q0, q1, q2, q3, -, lq⟩ := hq0.facts
  go_wp2_with fail
  have HU1 := Lib.hid (Up.alloc w (.cells #[.slice A zs.length c, .int .i64 s, .bool b, .slice A2 n2 c2] 59))
  have HS1 := Lib.hid (size_alloc w (.cells #[.slice A zs.length c, .int .i64 s, .bool b, .slice A2 n2 c2] 59))
  generalize w.alloc (.cells #[.slice A zs.length c, .int .i64 s, .bool b, .slice A2 n2 c2] 59) = w1 at *
  have HU2 := Lib.hid (Up.alloc w1 (.cells #[.slice none 0 0, .int .i64 0] 28))
  have HF2 := Lib.hid (CellF.new w1 none 0 0 0)
  have HS2 := Lib.hid (size_alloc w1 (.cells #[.slice none 0 0, .int .i64 0] 28))
  generalize w1.alloc (.cells #[.slice none 0 0, .int .i64 0] 28) = w2 at *
  have HU3 := Lib.hid (Up.alloc w2 (.cells (iCells (List.replicate zs.length 0)) 3))
  have HI3 := Lib.hid (RowI.new w2 (List.replicate zs.length 0) _ rfl)
  have HS3 := Lib.hid (size_alloc w2 (.cells (iCells (List.replicate zs.length 0)) 3))
  generalize w2.alloc (.cells (iCells (List.replicate zs.length 0)) 3) = w3 at *
  obtain ⟨g0, hg0⟩ : ∃ g0, g0 = w.heap.size := ⟨_, rfl⟩
  obtain ⟨g1, hg1⟩ : ∃ g1, g1 = w.heap.size + 1 := ⟨_, rfl⟩
  obtain ⟨g2, hg2⟩ : ∃ g2, g2 = w.heap.size + 1 + 1 := ⟨_, rfl⟩
  obtain ⟨g3, hg3⟩ : ∃ g3, g3 = w.heap.size + 1 + 1 + 1 := ⟨_, rfl⟩
  rw [← hg3, ← hg2, ← hg1, ← hg0]
  have s1 := HS1.out
  have s2 := HS2.out
  have s3 := HS3.out
  rw [← hg0] at hq0
  rw [show w1.heap.size = g1 by omega] at HF2
  rw [show w2.heap.size = g2 by omega] at HI3
  have HU4 := Lib.hid (Up.alloc w3 (.cells #[.slice (some ⟨g2, 0, none⟩) zs.length zs.length, .int .i64 0] 28))
  have HF4 := Lib.hid (CellF.new w3 (some ⟨g2, 0, none⟩) zs.length zs.length 0)
  rw [show w3.heap.size = g3 by omega] at HF4
  have HGG := Lib.hid (show w.heap.size ≤ g0 ∧ w.heap.size ≤ g1 ∧ w.heap.size ≤ g2 ∧ w.heap.size ≤ g3 ∧ g0 ≠ g1 ∧ g0 ≠ g2 ∧ g0 ≠ g3 ∧ g1 ≠ g2 ∧ g1 ≠ g3 ∧ g2 ≠ g3 by omega)
  generalize w3.alloc (.cells #[.slice (some ⟨g2, 0, none⟩) zs.length zs.length, .int .i64 0] 28) = w4 at *
  have HQ5 := Lib.hid (hq0.up ((HU2.out.trans HU3.out).trans HU4.out))
  have HF5 := Lib.hid (HF2.out.up (HU3.out.trans HU4.out))
  have HI5 := Lib.hid (HI3.out.up HU4.out)
  have HU5 := Lib.hid (((HU1.out.trans HU2.out).trans HU3.out).trans HU4.out)
  clear hg0 hg1 hg2 hg3 s1 s2 s3 HS1 HS2 HS3 HU1 HU2 HU3 HU4 HF2 HI3 hq0 q0 q1 q2 q3 lq hmk w1 w2 w3
  go_loopw [5, 18] (fun v5 i wr => ∃ k : Nat, k ≤ zs.length ∧ i = .int .i64 k ∧ v5 = .bool ((zs.take k).all limI) ∧ Hid (CellQ wr g0 (.slice A zs.length c) s b (.slice A2 n2 c2)) ∧ Hid (CellF wr g1 none 0 0 0) ∧ Hid (RowI wr g2 (fillR (zs.map fun z => if smallOk z then z else 0) k)) ∧ Hid (CellF wr g3 (some ⟨g2, 0, none⟩) zs.length zs.length 0) ∧ Hid (Up w wr)) (fun _ i _ => zs.length - (intOf i).toNat)
  case atStart => exact ⟨0, by omega, rfl, rfl, HQ5, HF5, by rw [fillR_zero, HML.out]; exact HI5, HF4, HU5⟩
  case round =>
    obtain ⟨k, hk, rfl, rfl, HQ, HF, HI, HE, HU⟩ := hrel
    by_cases hkl : k < zs.length
    · obtain ⟨b9, off, cs, rfl, hbb, ⟨t1, d1, D1, m1, j1, rfl, hz⟩, hcell⟩ := (hr.up HU.out).at_ hkl
      have e0 := hcell 0 _ rfl
      have e1 := hcell 1 _ rfl
      have e2 := hcell 2 _ rfl
      have HNEXT : Hid (fillR (zs.map fun z => if smallOk z then z else 0) (k + 1) = (fillR (zs.map fun z => if smallOk z then z else 0) k).set k (if smallOk zs[k] then zs[k] else 0)) := Lib.hid (by rw [← fillR_next _ k (by rw [HML.out]; exact hkl), List.getElem_map])
      have HIL : Hid (k < (fillR (zs.map fun z => if smallOk z then z else 0) k).length) := Lib.hid (by rw [fillR_length _ _ (by rw [HML.out]; omega), HML.out]; exact hkl)
      have HALL : Hid ((zs.take (k + 1)).all limI = ((zs.take k).all limI && smallOk zs[k])) := Lib.hid (by
        rw [List.take_succ_eq_append_getElem hkl, List.all_append]
        simp [limI, smallOk])
      have HRI := Lib.hid hz.ri
      have HS := Lib.hid (fun W (hu : Up wr W) => refSmall_any' _ zs[k] W (HRI.out.up hu))
      clear hcell hz
      simp only [eltR, Nat.add_zero] at e0 e1 e2
      generalize zs[k] = z at *
      generalize hB1 : (zs.take (k + 1)).all limI = B1 at *
      generalize (zs.take k).all limI = B0 at *
      generalize smallOk z = sz at *
      go_upto_region 7 with fail
      have HUY := Lib.hid (Up.alloc wr (.cells #[.int .i64 t1, .bool d1, .slice D1 m1 j1] 48))
      have HCI := Lib.hid (CellI.new wr t1 d1 (.slice D1 m1 j1))
      obtain ⟨wY, hwY⟩ : ∃ wY, wY = wr.alloc (.cells #[.int .i64 t1, .bool d1, .slice D1 m1 j1] 48) := ⟨_, rfl⟩
      obtain ⟨g7, hg7⟩ : ∃ g7, g7 = wr.heap.size := ⟨_, rfl⟩
      rw [← hwY] at HUY HCI ⊢
      rw [← hg7] at HCI ⊢
      clear hwY hg7 e0 e1 e2 hbb
      obtain ⟨t0, t1', t2, lt⟩ := HCI.out.facts
      have HEY := Lib.hid (HE.out.up HUY.out)
      have HIY := Lib.hid (HI.out.up HUY.out)
      obtain ⟨p0, p1, f0, f1, l3⟩ := HEY.out.facts
      have d0 := HIY.out.cell HIL.out
      have f3 := HIY.out.frozen k
      have lg := HIY.out.lt
      go_region_law
        ((go_simp
          go_at_call 50
          refine Calls.mono (HS.out _ (HUY.out.trans (by (repeat (first | exact Below.refl _ _ | exact Hid.out (by assumption) | refine Up.trans ?_ (Up.drew _) | refine Up.trans ?_ (Up.drewN _ _) | refine Up.trans ?_ (Up.alloc _ _) | refine Up.trans ?_ (Hid.out (by assumption))))))) ?_
          rintro e w5 ⟨rfl, hu⟩
          have HU5' := Lib.hid hu
          obtain ⟨t0, t1', t2, lt⟩ := (HCI.out.up (w' := w5) (by (repeat (first | exact Below.refl _ _ | exact Hid.out (by assumption) | refine Up.trans ?_ (Up.drew _) | refine Up.trans ?_ (Up.drewN _ _) | refine Up.trans ?_ (Up.alloc _ _) | refine Up.trans ?_ (Hid.out (by assumption)))))).facts
          have HE5 := Lib.hid (HEY.out.up (w' := w5) (by (repeat (first | exact Below.refl _ _ | exact Hid.out (by assumption) | refine Up.trans ?_ (Up.drew _) | refine Up.trans ?_ (Up.drewN _ _) | refine Up.trans ?_ (Up.alloc _ _) | refine Up.trans ?_ (Hid.out (by assumption))))))
          have HI5' := Lib.hid (HIY.out.up (w' := w5) (by (repeat (first | exact Below.refl _ _ | exact Hid.out (by assumption) | refine Up.trans ?_ (Up.drew _) | refine Up.trans ?_ (Up.drewN _ _) | refine Up.trans ?_ (Up.alloc _ _) | refine Up.trans ?_ (Hid.out (by assumption))))))
          obtain ⟨p0, p1, f0, f1, l3⟩ := HE5.out.facts
          have d0 := HI5'.out.cell HIL.out
          have f3 := HI5'.out.frozen k
          have lg := HI5'.out.lt
          clear hu))
      all_goals
        have HI6 := Lib.hid (HI5'.out.set k (if sz then z else 0))
        have HE6 := Lib.hid (HE5.out.far (fun e => HGG.out.2.2.2.2.2.2.2.2.2 e.symm) k (.int .i64 (if sz then z else 0)))
        have HF6 := Lib.hid ((HF.out.up (w' := w5) (by (repeat (first | exact Below.refl _ _ | exact Hid.out (by assumption) | refine Up.trans ?_ (Up.drew _) | refine Up.trans ?_ (Up.drewN _ _) | refine Up.trans ?_ (Up.alloc _ _) | refine Up.trans ?_ (Hid.out (by assumption)))))).far HGG.out.2.2.2.2.2.2.2.1 k (.int .i64 (if sz then z else 0)))
        have HQ6 := Lib.hid ((HQ.out.up (w' := w5) (by (repeat (first | exact Below.refl _ _ | exact Hid.out (by assumption) | refine Up.trans ?_ (Up.drew _) | refine Up.trans ?_ (Up.drewN _ _) | refine Up.trans ?_ (Up.alloc _ _) | refine Up.trans ?_ (Hid.out (by assumption)))))).far1 HGG.out.2.2.2.2.2.1 k (.int .i64 (if sz then z else 0)))
        have HU6 := Lib.hid (Below.setCell (p := ⟨g2, k, none⟩) (show Up w w5 by (repeat (first | exact Below.refl _ _ | exact Hid.out (by assumption) | refine Up.trans ?_ (Up.drew _) | refine Up.trans ?_ (Up.drewN _ _) | refine Up.trans ?_ (Up.alloc _ _) | refine Up.trans ?_ (Hid.out (by assumption))))) HGG.out.2.2.1 (.int .i64 (if sz then z else 0)))
        clear t0 t1' t2 lt p0 p1 f0 f1 l3 d0 f3 lg
        rcases B0 with _ | _ <;> rcases sz with _ | _ <;> (go_wp2; exact ⟨⟨k + 1, by omega, by simp, by rw [hB1, HALL.out]; rfl, HQ6, HF6, by rw [HNEXT.out]; exact HI6, HE6, HU6⟩, by simp [intOf]; omega⟩)
    · have hke : k = zs.length := by omega
      subst hke
      rw [List.take_length] at *
      obtain ⟨q0, q1, q2, q3, -, lq⟩ := HQ.out.facts
      have HXJ := Lib.hid (HXS.out _ HU.out)
      clear HXS
      have nx1 : (g1 = g3) = False := eq_false HGG.out.2.2.2.2.2.2.2.2.1
      have nx2 : (g3 = g1) = False := eq_false (fun e => HGG.out.2.2.2.2.2.2.2.2.1 e.symm)
      generalize zs.all limI = ba at *
      generalize smallOk x = sx at *
      rcases ba with _ | _ <;> rcases sx with _ | _
      · go_wp2_with fail
        refine Calls.mono HXJ.out ?_
        rintro e w5 ⟨rfl, hu⟩
        have HE6 := Lib.hid (HE.out.up hu)
        have HF6 := Lib.hid (HF.out.up hu)
        have HU6 := Lib.hid (HU.out.trans hu)
        clear q0 q1 q2 q3 lq hu
        obtain ⟨p0, p1, f0, f1, l3⟩ := HE6.out.facts
        obtain ⟨r0, r1, fr0, fr1, lr⟩ := HF6.out.facts
        have HF7 := Lib.hid (((HF6.out.far HGG.out.2.2.2.2.2.2.2.2.1 1 (.int .i64 0)).set none 0 0 0).facts)
        have HU7 := Lib.hid (Up.stored (Below.setCell (p := ⟨g3, 1, none⟩) HU6.out HGG.out.2.2.2.1 (.int .i64 0)) HGG.out.2.1 (.slice none 0 0) (.int .i64 0))
        go_wp2
        obtain ⟨z0, z1, -, -, -⟩ := HF7.out
        refine bodyPost_ret (by simp [results, Tryz.results49, go_sem, z0, z1]; try rfl) rfl ?_
        exact ⟨rfl, HU7.out⟩
      · go_wp2_with fail
        refine Calls.mono HXJ.out ?_
        rintro e w5 ⟨rfl, hu⟩
        have HE6 := Lib.hid (HE.out.up hu)
        have HF6 := Lib.hid (HF.out.up hu)
        have HU6 := Lib.hid (HU.out.trans hu)
        clear q0 q1 q2 q3 lq hu
        obtain ⟨p0, p1, f0, f1, l3⟩ := HE6.out.facts
        obtain ⟨r0, r1, fr0, fr1, lr⟩ := HF6.out.facts
        have HF7 := Lib.hid (((HF6.out.far HGG.out.2.2.2.2.2.2.2.2.1 1 (.int .i64 x)).set none 0 0 0).facts)
        have HU7 := Lib.hid (Up.stored (Below.setCell (p := ⟨g3, 1, none⟩) HU6.out HGG.out.2.2.2.1 (.int .i64 x)) HGG.out.2.1 (.slice none 0 0) (.int .i64 0))
        go_wp2
        obtain ⟨z0, z1, -, -, -⟩ := HF7.out
        refine bodyPost_ret (by simp [results, Tryz.results49, go_sem, z0, z1]; try rfl) rfl ?_
        exact ⟨rfl, HU7.out⟩
      · go_wp2_with fail
        refine Calls.mono HXJ.out ?_
        rintro e w5 ⟨rfl, hu⟩
        have HE6 := Lib.hid (HE.out.up hu)
        have HF6 := Lib.hid (HF.out.up hu)
        have HU6 := Lib.hid (HU.out.trans hu)
        clear q0 q1 q2 q3 lq hu
        obtain ⟨p0, p1, f0, f1, l3⟩ := HE6.out.facts
        obtain ⟨r0, r1, fr0, fr1, lr⟩ := HF6.out.facts
        have HF7 := Lib.hid (((HF6.out.far HGG.out.2.2.2.2.2.2.2.2.1 1 (.int .i64 0)).set none 0 0 0).facts)
        have HU7 := Lib.hid (Up.stored (Below.setCell (p := ⟨g3, 1, none⟩) HU6.out HGG.out.2.2.2.1 (.int .i64 0)) HGG.out.2.1 (.slice none 0 0) (.int .i64 0))
        go_wp2
        obtain ⟨z0, z1, -, -, -⟩ := HF7.out
        refine bodyPost_ret (by simp [results, Tryz.results49, go_sem, z0, z1]; try rfl) rfl ?_
        exact ⟨rfl, HU7.out⟩
      · have := HZL.out; cases this
end Go.Proofs.YtacbjbnocepnaaaGreatDoor

/- The reference's Value and Primitive, and the walk of the law of forms. -/
import Derived.Test.YtacbjbnocepnaaaGreatDoorQHJ
import Derived.Test.YtacbjbnocepnaaaGreatDoorQHK
import Derived.Test.YtacbjbnocepnaaaGreatDoorQHG
namespace Go.Proofs.YtacbjbnocepnaaaGreatDoor
open Go.RowKit Fm
end Go.Proofs.YtacbjbnocepnaaaGreatDoor
namespace Go.Proofs.YtacbjbnocepnaaaGreatDoor
open Go.RowKit Fm
theorem CellF.far {w : World} {g g' : Nat} {A : Option Addr} {m c : Nat} {x : Int} (h : CellF w g A m c x) (hne : g ≠ g') (o : Nat) (u : Value) : CellF (w.setCell ⟨g', o, none⟩ u) g A m c x :=
  (Below.heap_setCell w ⟨g', o, none⟩ u g hne).trans h
theorem CellQ.far1 {w : World} {g g' : Nat} {v v2 : Value} {s : Int} {b : Bool} (h : CellQ w g v s b v2) (hne : g ≠ g') (o : Nat) (u : Value) : CellQ (w.setCell ⟨g', o, none⟩ u) g v s b v2 :=
  (Below.heap_setCell w ⟨g', o, none⟩ u g hne).trans h
theorem RowI.far1 {w : World} {g g' : Nat} {xs : List Int} (h : RowI w g xs) (hne : g ≠ g') (o : Nat) (u : Value) : RowI (w.setCell ⟨g', o, none⟩ u) g xs :=
  (Below.heap_setCell w ⟨g', o, none⟩ u g hne).trans h
theorem lim_bd {x : Int} (h : limI x = true) : x.natAbs < 2305843009213693952 := by
  simp only [limI, decide_eq_true_eq] at h
  omega
theorem lim_ok {x : Int} (h : limI x = true) : smallOk x = true := h
set_option maxHeartbeats 1000000 in
set_option maxRecDepth 10000 in
theorem refFrom_form (A A2 : Option Addr) (c c2 n2 : Nat) (s : Int) (b : Bool) (zs : List Int) (x : Int) (w : World) (hn : zs.length ≤ 8) (hr : RdE eltR w A zs) (hx : RI w (.agg #[.int .i64 s, .bool b, .slice A2 n2 c2]) x) (hz : zs.all limI = true) (hlx : limI x = true) :
    Calls Tryz.prog 49 #[.agg #[.slice A zs.length c, .int .i64 s, .bool b, .slice A2 n2 c2]] w fun e w' => ∃ A', e = .returned (.tuple #[.agg #[.slice A' zs.length zs.length, .int .i64 x], .bool true]) ∧ RdI w' A' zs ∧ (∀ b off, A' = some ⟨b, off, none⟩ → w.heap.size ≤ b) ∧ Up w w' := by
  have hmk : ∀ W, (Instr.makeSlice 26 (.int .i64 (zs.length : Int)) (.int .i64 (zs.length : Int))).run Tryz.prog W = .ok (.slice (some ⟨W.heap.size, 0, none⟩) zs.length zs.length) (W.alloc (.cells (iCells (List.replicate zs.length 0)) 3)) := fun W => mkInts zs.length (by omega) W
  have HXS := Lib.hid (fun W => refSmall_any' _ x W (hx.keep (w' := W) (lim_bd hlx)))
  rw [lim_ok hlx] at HXS
  simp only [if_true] at HXS
  have HZL := Lib.hid (fun z (h : z ∈ zs) => (List.all_eq_true.1 hz) z h)
  clear hlx hz hx
  go_enter Tryz.func49, Tryz.ntmps49
  have hq0 := CellQ.new w (.slice A zs.length c) (.slice A2 n2 c2) s b
  obtain ⟨q0, q1, q2, q3, -, lq⟩ := hq0.facts
  go_wp2_with fail
  have HU1 := Lib.hid (Up.alloc w (.cells #[.slice A zs.length c, .int .i64 s, .bool b, .slice A2 n2 c2] 59))
  have HS1 := Lib.hid (size_alloc w (.cells #[.slice A zs.length c, .int .i64 s, .bool b, .slice A2 n2 c2] 59))
  generalize w.alloc (.cells #[.slice A zs.length c, .int .i64 s, .bool b, .slice A2 n2 c2] 59) = w1 at *
  have HU2 := Lib.hid (Up.alloc w1 (.cells #[.slice none 0 0, .int .i64 0] 28))
  have HF2 := Lib.hid (CellF.new w1 none 0 0 0)
  have HS2 := Lib.hid (size_alloc w1 (.cells #[.slice none 0 0, .int .i64 0] 28))
  generalize w1.alloc (.cells #[.slice none 0 0, .int .i64 0] 28) = w2 at *
  have HU3 := Lib.hid (Up.alloc w2 (.cells (iCells (List.replicate zs.length 0)) 3))
  have HI3 := Lib.hid (RowI.new w2 (List.replicate zs.length 0) _ rfl)
  have HS3 := Lib.hid (size_alloc w2 (.cells (iCells (List.replicate zs.length 0)) 3))
  generalize w2.alloc (.cells (iCells (List.replicate zs.length 0)) 3) = w3 at *
  obtain ⟨g0, hg0⟩ : ∃ g0, g0 = w.heap.size := ⟨_, rfl⟩
  obtain ⟨g1, hg1⟩ : ∃ g1, g1 = w.heap.size + 1 := ⟨_, rfl⟩
  obtain ⟨g2, hg2⟩ : ∃ g2, g2 = w.heap.size + 1 + 1 := ⟨_, rfl⟩
  obtain ⟨g3, hg3⟩ : ∃ g3, g3 = w.heap.size + 1 + 1 + 1 := ⟨_, rfl⟩
  rw [← hg3, ← hg2, ← hg1, ← hg0]
  have s1 := HS1.out
  have s2 := HS2.out
  have s3 := HS3.out
  rw [← hg0] at hq0
  rw [show w1.heap.size = g1 by omega] at HF2
  rw [show w2.heap.size = g2 by omega] at HI3
  have HU4 := Lib.hid (Up.alloc w3 (.cells #[.slice (some ⟨g2, 0, none⟩) zs.length zs.length, .int .i64 0] 28))
  have HF4 := Lib.hid (CellF.new w3 (some ⟨g2, 0, none⟩) zs.length zs.length 0)
  rw [show w3.heap.size = g3 by omega] at HF4
  have HGG := Lib.hid (show w.heap.size ≤ g0 ∧ w.heap.size ≤ g1 ∧ w.heap.size ≤ g2 ∧ w.heap.size ≤ g3 ∧ g0 ≠ g1 ∧ g0 ≠ g2 ∧ g0 ≠ g3 ∧ g1 ≠ g2 ∧ g1 ≠ g3 ∧ g2 ≠ g3 by omega)
  generalize w3.alloc (.cells #[.slice (some ⟨g2, 0, none⟩) zs.length zs.length, .int .i64 0] 28) = w4 at *
  have HQ5 := Lib.hid (hq0.up ((HU2.out.trans HU3.out).trans HU4.out))
  have HF5 := Lib.hid (HF2.out.up (HU3.out.trans HU4.out))
  have HI5 := Lib.hid (HI3.out.up HU4.out)
  have HU5 := Lib.hid (((HU1.out.trans HU2.out).trans HU3.out).trans HU4.out)
  clear hg0 hg1 hg2 hg3 s1 s2 s3 HS1 HS2 HS3 HU1 HU2 HU3 HU4 HF2 HI3 hq0 q0 q1 q2 q3 lq hmk w1 w2 w3
  go_loopw [5, 18] (fun v5 i wr => ∃ k : Nat, k ≤ zs.length ∧ i = .int .i64 k ∧ v5 = .bool true ∧ Hid (CellQ wr g0 (.slice A zs.length c) s b (.slice A2 n2 c2)) ∧ Hid (CellF wr g1 none 0 0 0) ∧ Hid (RowI wr g2 (fillR zs k)) ∧ Hid (CellF wr g3 (some ⟨g2, 0, none⟩) zs.length zs.length 0) ∧ Hid (Up w wr)) (fun _ i _ => zs.length - (intOf i).toNat)
  case atStart => exact ⟨0, by omega, rfl, rfl, HQ5, HF5, by rw [fillR_zero]; exact HI5, HF4, HU5⟩
  case round =>
    obtain ⟨k, hk, rfl, rfl, HQ, HF, HI, HE, HU⟩ := hrel
    by_cases hkl : k < zs.length
    · obtain ⟨b9, off, cs, rfl, hbb, ⟨t1, d1, D1, m1, j1, rfl, hz⟩, hcell⟩ := (hr.up HU.out).at_ hkl
      have e0 := hcell 0 _ rfl
      have e1 := hcell 1 _ rfl
      have e2 := hcell 2 _ rfl
      have hlz := HZL.out zs[k] (List.getElem_mem hkl)
      have HNEXT : Hid (fillR zs (k + 1) = (fillR zs k).set k zs[k]) := Lib.hid (by rw [fillR_next _ k hkl])
      have HIL : Hid (k < (fillR zs k).length) := Lib.hid (by rw [fillR_length _ _ (by omega)]; exact hkl)
      have HS := Lib.hid (fun W => refSmall_any' _ zs[k] W (hz.ri.keep (w' := W) (lim_bd hlz)))
      rw [lim_ok hlz] at HS
      simp only [if_true] at HS
      clear hcell hz hlz
      simp only [eltR, Nat.add_zero] at e0 e1 e2
      generalize zs[k] = z at *
      go_upto_region 7 with fail
      have HUY := Lib.hid (Up.alloc wr (.cells #[.int .i64 t1, .bool d1, .slice D1 m1 j1] 48))
      have HCI := Lib.hid (CellI.new wr t1 d1 (.slice D1 m1 j1))
      obtain ⟨wY, hwY⟩ : ∃ wY, wY = wr.alloc (.cells #[.int .i64 t1, .bool d1, .slice D1 m1 j1] 48) := ⟨_, rfl⟩
      obtain ⟨g7, hg7⟩ : ∃ g7, g7 = wr.heap.size := ⟨_, rfl⟩
      rw [← hwY] at HUY HCI ⊢
      rw [← hg7] at HCI ⊢
      clear hwY hg7 e0 e1 e2 hbb
      obtain ⟨t0, t1', t2, lt⟩ := HCI.out.facts
      have HEY := Lib.hid (HE.out.up HUY.out)
      have HIY := Lib.hid (HI.out.up HUY.out)
      obtain ⟨p0, p1, f0, f1, l3⟩ := HEY.out.facts
      have d0 := HIY.out.cell HIL.out
      have f3 := HIY.out.frozen k
      have lg := HIY.out.lt
      go_region_law
        ((go_simp
          go_at_call 50
          refine Calls.mono (HS.out _) ?_
          rintro e w5 ⟨rfl, hu⟩
          have HU5' := Lib.hid hu
          obtain ⟨t0, t1', t2, lt⟩ := (HCI.out.up (w' := w5) (by (repeat (first | exact Below.refl _ _ | exact Hid.out (by assumption) | refine Up.trans ?_ (Up.drew _) | refine Up.trans ?_ (Up.drewN _ _) | refine Up.trans ?_ (Up.alloc _ _) | refine Up.trans ?_ (Hid.out (by assumption)))))).facts
          have HE5 := Lib.hid (HEY.out.up (w' := w5) (by (repeat (first | exact Below.refl _ _ | exact Hid.out (by assumption) | refine Up.trans ?_ (Up.drew _) | refine Up.trans ?_ (Up.drewN _ _) | refine Up.trans ?_ (Up.alloc _ _) | refine Up.trans ?_ (Hid.out (by assumption))))))
          have HI5' := Lib.hid (HIY.out.up (w' := w5) (by (repeat (first | exact Below.refl _ _ | exact Hid.out (by assumption) | refine Up.trans ?_ (Up.drew _) | refine Up.trans ?_ (Up.drewN _ _) | refine Up.trans ?_ (Up.alloc _ _) | refine Up.trans ?_ (Hid.out (by assumption))))))
          obtain ⟨p0, p1, f0, f1, l3⟩ := HE5.out.facts
          have d0 := HI5'.out.cell HIL.out
          have f3 := HI5'.out.frozen k
          have lg := HI5'.out.lt
          clear hu))
      all_goals
        have HI6 := Lib.hid (HI5'.out.set k z)
        have HE6 := Lib.hid (HE5.out.far (fun e => HGG.out.2.2.2.2.2.2.2.2.2 e.symm) k (.int .i64 z))
        have HF6 := Lib.hid ((HF.out.up (w' := w5) (by (repeat (first | exact Below.refl _ _ | exact Hid.out (by assumption) | refine Up.trans ?_ (Up.drew _) | refine Up.trans ?_ (Up.drewN _ _) | refine Up.trans ?_ (Up.alloc _ _) | refine Up.trans ?_ (Hid.out (by assumption)))))).far HGG.out.2.2.2.2.2.2.2.1 k (.int .i64 z))
        have HQ6 := Lib.hid ((HQ.out.up (w' := w5) (by (repeat (first | exact Below.refl _ _ | exact Hid.out (by assumption) | refine Up.trans ?_ (Up.drew _) | refine Up.trans ?_ (Up.drewN _ _) | refine Up.trans ?_ (Up.alloc _ _) | refine Up.trans ?_ (Hid.out (by assumption)))))).far1 HGG.out.2.2.2.2.2.1 k (.int .i64 z))
        have HU6 := Lib.hid (Below.setCell (p := ⟨g2, k, none⟩) (show Up w w5 by (repeat (first | exact Below.refl _ _ | exact Hid.out (by assumption) | refine Up.trans ?_ (Up.drew _) | refine Up.trans ?_ (Up.drewN _ _) | refine Up.trans ?_ (Up.alloc _ _) | refine Up.trans ?_ (Hid.out (by assumption))))) HGG.out.2.2.1 (.int .i64 z))
        clear t0 t1' t2 lt p0 p1 f0 f1 l3 d0 f3 lg
        go_wp2
        exact ⟨⟨k + 1, by omega, by simp, rfl, HQ6, HF6, by rw [HNEXT.out]; exact HI6, HE6, HU6⟩, by simp [intOf]; omega⟩
    · have hke : k = zs.length := by omega
      subst hke
      have HR := Lib.hid (by have := HI.out; rw [fillR_all] at this; exact this)
      obtain ⟨q0, q1, q2, q3, -, lq⟩ := HQ.out.facts
      go_wp2_with fail
      refine Calls.mono (HXS.out _) ?_
      rintro e w5 ⟨rfl, hu⟩
      have HU6 := Lib.hid hu
      have HE6 := Lib.hid (HE.out.up hu)
      have HF6 := Lib.hid (HF.out.up hu)
      have HR6 := Lib.hid (HR.out.up hu)
      clear q0 q1 q2 q3 lq hu
      obtain ⟨p0, p1, f0, f1, l3⟩ := HE6.out.facts
      obtain ⟨r0, r1, fr0, fr1, lr⟩ := HF6.out.facts
      have nx1 : (g1 = g3) = False := eq_false HGG.out.2.2.2.2.2.2.2.2.1
      have nx2 : (g3 = g1) = False := eq_false (fun e => HGG.out.2.2.2.2.2.2.2.2.1 e.symm)
      have HF7 := Lib.hid (((HF6.out.far HGG.out.2.2.2.2.2.2.2.2.1 1 (.int .i64 x)).set (some ⟨g2, 0, none⟩) zs.length zs.length x).facts)
      have HR7 := Lib.hid (((HR6.out.far1 HGG.out.2.2.2.2.2.2.2.2.2 1 (.int .i64 x)).far1 (fun e => HGG.out.2.2.2.2.2.2.2.1 e.symm) 0 (.slice (some ⟨g2, 0, none⟩) zs.length zs.length)).far1 (fun e => HGG.out.2.2.2.2.2.2.2.1 e.symm) 1 (.int .i64 x))
      have HU7 := Lib.hid (Up.stored (Below.setCell (p := ⟨g3, 1, none⟩) (show Up w w5 by (repeat (first | exact Below.refl _ _ | exact Hid.out (by assumption) | refine Up.trans ?_ (Up.drew _) | refine Up.trans ?_ (Up.drewN _ _) | refine Up.trans ?_ (Up.alloc _ _) | refine Up.trans ?_ (Hid.out (by assumption))))) HGG.out.2.2.2.1 (.int .i64 x)) HGG.out.2.1 (.slice (some ⟨g2, 0, none⟩) zs.length zs.length) (.int .i64 x))
      go_wp2
      obtain ⟨z0, z1, -, -, -⟩ := HF7.out
      refine bodyPost_ret (by simp [results, Tryz.results49, go_sem, z0, z1]; try rfl) rfl ?_
      exact ⟨some ⟨g2, 0, none⟩, rfl, by have := HR7.out.rd zs.length; rwa [List.take_length] at this, fun b off e => by cases e; exact HGG.out.2.2.1, HU7.out⟩
end Go.Proofs.YtacbjbnocepnaaaGreatDoor
namespace Go.Proofs.YtacbjbnocepnaaaGreatDoor
open Go.RowKit Fm
end Go.Proofs.YtacbjbnocepnaaaGreatDoor
namespace Go.Proofs.YtacbjbnocepnaaaGreatDoor
open Go.RowKit Fm
end Go.Proofs.YtacbjbnocepnaaaGreatDoor
namespace Go.Proofs.YtacbjbnocepnaaaGreatDoor
open Go.RowKit Fm
end Go.Proofs.YtacbjbnocepnaaaGreatDoor

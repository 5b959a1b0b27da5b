/- The reference's Value and Primitive, and the walk of the law of forms. -/
import Derived.Test.YtgcmogldiahdpaaGreatDoorQHJ
import Derived.Test.YtgcmogldiahdpaaGreatDoorQHK
import Derived.Test.YtgcmogldiahdpaaGreatDoorQHG
namespace Go.Proofs.YtgcmogldiahdpaaGreatDoor
open Go.RowKit Fm
set_option maxRecDepth 10000 in
/-- The reference's Value of a valid form at a valid point. -/
theorem refValue_good (A B : Option Addr) (c d n : Nat) (f : List Int × Int) (xs : List (Int × Int)) (w : World) (hn : n ≤ 8) (hfl : f.1.length = n) (hxl : xs.length = n) (hc : xs.length ≤ d) (hcm : d ≤ maxLen) (hr : RdI w A f.1) (hs : RdN w B xs)
    (hv : validF n f = true) (hp : validP n xs = true) (hx : ∀ p, p ∈ xs → Rng p.1 p.2) :
    Calls Tryz.prog 19 #[.int .i64 n, .agg #[.slice A f.1.length c, .int .i64 f.2], .slice B xs.length d] w fun e w' => e = .returned (.tuple #[.agg #[.int .i64 (numX true (valQ f xs)), .int .i64 (numY true (valQ f xs))], .int .i64 (numE true (valQ f xs))]) ∧ Up w w' := by
  have hok := validP_ok hp
  have hlim := rowF_lim hv
  have hl1 : f.1.all limI = true := by
    rw [List.all_eq_true] at hlim ⊢
    exact fun y hy => hlim y (List.mem_append_left _ hy)
  have hl2 : limI f.2 = true := by
    rw [List.all_eq_true] at hlim
    exact hlim f.2 (by simp [rowF])
  have hlen : f.1.length = (ratsOf xs).length := by unfold ratsOf; rw [List.length_map, hfl, hxl]
  refine refValue_ok A B c d n f xs w hn hfl hxl hc hcm hr hs hv hp hx (Lib.hid fun W0 W1 W v A1 c1 hu hrow hq => ?_)
  obtain ⟨A2, c2, s, b, A3, n3, c3, rfl, -, -, h1, h2, -⟩ := hrow
  rw [← evalQ_val f xs (by rw [hfl, hxl])]
  refine refEval_any A2 A3 A1 c2 c3 n3 c1 s b f.1 f.2 (ratsOf xs) W hlen (by omega) (h1.up hu) (h2.up hu) hq 20 (by omega) (by omega) (fun z hz => ?_) (fun q hq => ?_) (fun k hk => ?_)
  · rw [List.all_eq_true] at hl1
    have := hl1 z hz
    simp only [limI, decide_eq_true_eq] at this
    exact (int_QB (by omega) (by omega)).mono (by omega)
  · unfold ratsOf at hq
    obtain ⟨p, hp1, rfl⟩ := List.mem_map.1 hq
    unfold okAll at hok
    rw [List.all_eq_true] at hok
    exact (ok_QB (hok p hp1)).mono (by omega)
  · exact evalQ_QB f.1 f.2 xs (by rw [hfl, hxl]) (by omega) hl1 hl2 hok k hk
end Go.Proofs.YtgcmogldiahdpaaGreatDoor
namespace Go.Proofs.YtgcmogldiahdpaaGreatDoor
open Go.RowKit Fm
theorem CellF.far {w : World} {g g' : Nat} {A : Option Addr} {m c : Nat} {x : Int} (h : CellF w g A m c x) (hne : g ≠ g') (o : Nat) (u : Value) : CellF (w.setCell ⟨g', o, none⟩ u) g A m c x :=
  (Below.heap_setCell w ⟨g', o, none⟩ u g hne).trans h
theorem CellQ.far1 {w : World} {g g' : Nat} {v v2 : Value} {s : Int} {b : Bool} (h : CellQ w g v s b v2) (hne : g ≠ g') (o : Nat) (u : Value) : CellQ (w.setCell ⟨g', o, none⟩ u) g v s b v2 :=
  (Below.heap_setCell w ⟨g', o, none⟩ u g hne).trans h
theorem RowI.far1 {w : World} {g g' : Nat} {xs : List Int} (h : RowI w g xs) (hne : g ≠ g') (o : Nat) (u : Value) : RowI (w.setCell ⟨g', o, none⟩ u) g xs :=
  (Below.heap_setCell w ⟨g', o, none⟩ u g hne).trans h
theorem lim_bd {x : Int} (h : limI x = true) : x.natAbs < 2305843009213693952 := by
  simp only [limI, decide_eq_true_eq] at h
  omega
theorem lim_ok {x : Int} (h : limI x = true) : smallOk x = true := h
set_option maxHeartbeats 1000000 in
set_option maxRecDepth 10000 in
theorem refFrom_form (A A2 : Option Addr) (c c2 n2 : Nat) (s : Int) (b : Bool) (zs : List Int) (x : Int) (w : World) (hn : zs.length ≤ 8) (hr : RdE eltR w A zs) (hx : RI w (.agg #[.int .i64 s, .bool b, .slice A2 n2 c2]) x) (hz : zs.all limI = true) (hlx : limI x = true) :
    Calls Tryz.prog 78 #[.agg #[.slice A zs.length c, .int .i64 s, .bool b, .slice A2 n2 c2]] w fun e w' => ∃ A', e = .returned (.tuple #[.agg #[.slice A' zs.length zs.length, .int .i64 x], .bool true]) ∧ RdI w' A' zs ∧ (∀ b off, A' = some ⟨b, off, none⟩ → w.heap.size ≤ b) ∧ Up w w' := by
  have hmk : ∀ W, (Instr.makeSlice 31 (.int .i64 (zs.length : Int)) (.int .i64 (zs.length : Int))).run Tryz.prog W = .ok (.slice (some ⟨W.heap.size, 0, none⟩) zs.length zs.length) (W.alloc (.cells (iCells (List.replicate zs.length 0)) 3)) := fun W => mkInts zs.length (by omega) W
  have HXS := Lib.hid (fun W => refSmall_any' _ x W (hx.keep (w' := W) (lim_bd hlx)))
  rw [lim_ok hlx] at HXS
  simp only [if_true] at HXS
  have HZL := Lib.hid (fun z (h : z ∈ zs) => (List.all_eq_true.1 hz) z h)
  clear hlx hz hx
  go_enter Tryz.func78, Tryz.ntmps78
  have hq0 := CellQ.new w (.slice A zs.length c) (.slice A2 n2 c2) s b
  obtain ⟨q0, q1, q2, q3, -, lq⟩ := hq0.facts
  go_wp2_with fail
  have HU1 := Lib.hid (Up.alloc w (.cells #[.slice A zs.length c, .int .i64 s, .bool b, .slice A2 n2 c2] 70))
  have HS1 := Lib.hid (size_alloc w (.cells #[.slice A zs.length c, .int .i64 s, .bool b, .slice A2 n2 c2] 70))
  generalize w.alloc (.cells #[.slice A zs.length c, .int .i64 s, .bool b, .slice A2 n2 c2] 70) = w1 at *
  have HU2 := Lib.hid (Up.alloc w1 (.cells #[.slice none 0 0, .int .i64 0] 33))
  have HF2 := Lib.hid (CellF.new w1 none 0 0 0)
  have HS2 := Lib.hid (size_alloc w1 (.cells #[.slice none 0 0, .int .i64 0] 33))
  generalize w1.alloc (.cells #[.slice none 0 0, .int .i64 0] 33) = w2 at *
  have HU3 := Lib.hid (Up.alloc w2 (.cells (iCells (List.replicate zs.length 0)) 3))
  have HI3 := Lib.hid (RowI.new w2 (List.replicate zs.length 0) _ rfl)
  have HS3 := Lib.hid (size_alloc w2 (.cells (iCells (List.replicate zs.length 0)) 3))
  generalize w2.alloc (.cells (iCells (List.replicate zs.length 0)) 3) = w3 at *
  obtain ⟨g0, hg0⟩ : ∃ g0, g0 = w.heap.size := ⟨_, rfl⟩
  obtain ⟨g1, hg1⟩ : ∃ g1, g1 = w.heap.size + 1 := ⟨_, rfl⟩
  obtain ⟨g2, hg2⟩ : ∃ g2, g2 = w.heap.size + 1 + 1 := ⟨_, rfl⟩
  obtain ⟨g3, hg3⟩ : ∃ g3, g3 = w.heap.size + 1 + 1 + 1 := ⟨_, rfl⟩
  rw [← hg3, ← hg2, ← hg1, ← hg0]
  have s1 := HS1.out
  have s2 := HS2.out
  have s3 := HS3.out
  rw [← hg0] at hq0
  rw [show w1.heap.size = g1 by omega] at HF2
  rw [show w2.heap.size = g2 by omega] at HI3
  have HU4 := Lib.hid (Up.alloc w3 (.cells #[.slice (some ⟨g2, 0, none⟩) zs.length zs.length, .int .i64 0] 33))
  have HF4 := Lib.hid (CellF.new w3 (some ⟨g2, 0, none⟩) zs.length zs.length 0)
  rw [show w3.heap.size = g3 by omega] at HF4
  have HGG := Lib.hid (show w.heap.size ≤ g0 ∧ w.heap.size ≤ g1 ∧ w.heap.size ≤ g2 ∧ w.heap.size ≤ g3 ∧ g0 ≠ g1 ∧ g0 ≠ g2 ∧ g0 ≠ g3 ∧ g1 ≠ g2 ∧ g1 ≠ g3 ∧ g2 ≠ g3 by omega)
  generalize w3.alloc (.cells #[.slice (some ⟨g2, 0, none⟩) zs.length zs.length, .int .i64 0] 33) = w4 at *
  have HQ5 := Lib.hid (hq0.up ((HU2.out.trans HU3.out).trans HU4.out))
  have HF5 := Lib.hid (HF2.out.up (HU3.out.trans HU4.out))
  have HI5 := Lib.hid (HI3.out.up HU4.out)
  have HU5 := Lib.hid (((HU1.out.trans HU2.out).trans HU3.out).trans HU4.out)
  clear hg0 hg1 hg2 hg3 s1 s2 s3 HS1 HS2 HS3 HU1 HU2 HU3 HU4 HF2 HI3 hq0 q0 q1 q2 q3 lq hmk w1 w2 w3
  go_loopw [5, 18] (fun v5 i wr => ∃ k : Nat, k ≤ zs.length ∧ i = .int .i64 k ∧ v5 = .bool true ∧ Hid (CellQ wr g0 (.slice A zs.length c) s b (.slice A2 n2 c2)) ∧ Hid (CellF wr g1 none 0 0 0) ∧ Hid (RowI wr g2 (fillR zs k)) ∧ Hid (CellF wr g3 (some ⟨g2, 0, none⟩) zs.length zs.length 0) ∧ Hid (Up w wr)) (fun _ i _ => zs.length - (intOf i).toNat)
  case atStart => exact ⟨0, by omega, rfl, rfl, HQ5, HF5, by rw [fillR_zero]; exact HI5, HF4, HU5⟩
  case round =>
    obtain ⟨k, hk, rfl, rfl, HQ, HF, HI, HE, HU⟩ := hrel
    by_cases hkl : k < zs.length
    · obtain ⟨b9, off, cs, rfl, hbb, ⟨t1, d1, D1, m1, j1, rfl, hz⟩, hcell⟩ := (hr.up HU.out).at_ hkl
      have e0 := hcell 0 _ rfl
      have e1 := hcell 1 _ rfl
      have e2 := hcell 2 _ rfl
      have hlz := HZL.out zs[k] (List.getElem_mem hkl)
      have HNEXT : Hid (fillR zs (k + 1) = (fillR zs k).set k zs[k]) := Lib.hid (by rw [fillR_next _ k hkl])
      have HIL : Hid (k < (fillR zs k).length) := Lib.hid (by rw [fillR_length _ _ (by omega)]; exact hkl)
      have HS := Lib.hid (fun W => refSmall_any' _ zs[k] W (hz.ri.keep (w' := W) (lim_bd hlz)))
      rw [lim_ok hlz] at HS
      simp only [if_true] at HS
      clear hcell hz hlz
      simp only [eltR, Nat.add_zero] at e0 e1 e2
      generalize zs[k] = z at *
      go_upto_region 7 with fail
      have HUY := Lib.hid (Up.alloc wr (.cells #[.int .i64 t1, .bool d1, .slice D1 m1 j1] 61))
      have HCI := Lib.hid (CellI.new wr t1 d1 (.slice D1 m1 j1))
      obtain ⟨wY, hwY⟩ : ∃ wY, wY = wr.alloc (.cells #[.int .i64 t1, .bool d1, .slice D1 m1 j1] 61) := ⟨_, rfl⟩
      obtain ⟨g7, hg7⟩ : ∃ g7, g7 = wr.heap.size := ⟨_, rfl⟩
      rw [← hwY] at HUY HCI ⊢
      rw [← hg7] at HCI ⊢
      clear hwY hg7 e0 e1 e2 hbb
      obtain ⟨t0, t1', t2, lt⟩ := HCI.out.facts
      have HEY := Lib.hid (HE.out.up HUY.out)
      have HIY := Lib.hid (HI.out.up HUY.out)
      obtain ⟨p0, p1, f0, f1, l3⟩ := HEY.out.facts
      have d0 := HIY.out.cell HIL.out
      have f3 := HIY.out.frozen k
      have lg := HIY.out.lt
      go_region_law
        ((go_simp
          go_at_call 91
          refine Calls.mono (HS.out _) ?_
          rintro e w5 ⟨rfl, hu⟩
          have HU5' := Lib.hid hu
          obtain ⟨t0, t1', t2, lt⟩ := (HCI.out.up (w' := w5) (by (repeat (first | exact Below.refl _ _ | exact Go.RowKit.Hid.out (by assumption) | refine Up.trans ?_ (Up.drew _) | refine Up.trans ?_ (Up.drewN _ _) | refine Up.trans ?_ (Up.alloc _ _) | refine Up.trans ?_ (Go.RowKit.Hid.out (by assumption)))))).facts
          have HE5 := Lib.hid (HEY.out.up (w' := w5) (by (repeat (first | exact Below.refl _ _ | exact Go.RowKit.Hid.out (by assumption) | refine Up.trans ?_ (Up.drew _) | refine Up.trans ?_ (Up.drewN _ _) | refine Up.trans ?_ (Up.alloc _ _) | refine Up.trans ?_ (Go.RowKit.Hid.out (by assumption))))))
          have HI5' := Lib.hid (HIY.out.up (w' := w5) (by (repeat (first | exact Below.refl _ _ | exact Go.RowKit.Hid.out (by assumption) | refine Up.trans ?_ (Up.drew _) | refine Up.trans ?_ (Up.drewN _ _) | refine Up.trans ?_ (Up.alloc _ _) | refine Up.trans ?_ (Go.RowKit.Hid.out (by assumption))))))
          obtain ⟨p0, p1, f0, f1, l3⟩ := HE5.out.facts
          have d0 := HI5'.out.cell HIL.out
          have f3 := HI5'.out.frozen k
          have lg := HI5'.out.lt
          clear hu))
      all_goals
        have HI6 := Lib.hid (HI5'.out.set k z)
        have HE6 := Lib.hid (HE5.out.far (fun e => HGG.out.2.2.2.2.2.2.2.2.2 e.symm) k (.int .i64 z))
        have HF6 := Lib.hid ((HF.out.up (w' := w5) (by (repeat (first | exact Below.refl _ _ | exact Go.RowKit.Hid.out (by assumption) | refine Up.trans ?_ (Up.drew _) | refine Up.trans ?_ (Up.drewN _ _) | refine Up.trans ?_ (Up.alloc _ _) | refine Up.trans ?_ (Go.RowKit.Hid.out (by assumption)))))).far HGG.out.2.2.2.2.2.2.2.1 k (.int .i64 z))
        have HQ6 := Lib.hid ((HQ.out.up (w' := w5) (by (repeat (first | exact Below.refl _ _ | exact Go.RowKit.Hid.out (by assumption) | refine Up.trans ?_ (Up.drew _) | refine Up.trans ?_ (Up.drewN _ _) | refine Up.trans ?_ (Up.alloc _ _) | refine Up.trans ?_ (Go.RowKit.Hid.out (by assumption)))))).far1 HGG.out.2.2.2.2.2.1 k (.int .i64 z))
        have HU6 := Lib.hid (Below.setCell (p := ⟨g2, k, none⟩) (show Up w w5 by (repeat (first | exact Below.refl _ _ | exact Go.RowKit.Hid.out (by assumption) | refine Up.trans ?_ (Up.drew _) | refine Up.trans ?_ (Up.drewN _ _) | refine Up.trans ?_ (Up.alloc _ _) | refine Up.trans ?_ (Go.RowKit.Hid.out (by assumption))))) HGG.out.2.2.1 (.int .i64 z))
        clear t0 t1' t2 lt p0 p1 f0 f1 l3 d0 f3 lg
        go_wp2
        exact ⟨⟨k + 1, by omega, by simp, rfl, HQ6, HF6, by rw [HNEXT.out]; exact HI6, HE6, HU6⟩, by simp [intOf]; omega⟩
    · have hke : k = zs.length := by omega
      subst hke
      have HR := Lib.hid (by have := HI.out; rw [fillR_all] at this; exact this)
      obtain ⟨q0, q1, q2, q3, -, lq⟩ := HQ.out.facts
      go_wp2_with fail
      refine Calls.mono (HXS.out _) ?_
      rintro e w5 ⟨rfl, hu⟩
      have HU6 := Lib.hid hu
      have HE6 := Lib.hid (HE.out.up hu)
      have HF6 := Lib.hid (HF.out.up hu)
      have HR6 := Lib.hid (HR.out.up hu)
      clear q0 q1 q2 q3 lq hu
      obtain ⟨p0, p1, f0, f1, l3⟩ := HE6.out.facts
      obtain ⟨r0, r1, fr0, fr1, lr⟩ := HF6.out.facts
      have nx1 : (g1 = g3) = False := eq_false HGG.out.2.2.2.2.2.2.2.2.1
      have nx2 : (g3 = g1) = False := eq_false (fun e => HGG.out.2.2.2.2.2.2.2.2.1 e.symm)
      have HF7 := Lib.hid (((HF6.out.far HGG.out.2.2.2.2.2.2.2.2.1 1 (.int .i64 x)).set (some ⟨g2, 0, none⟩) zs.length zs.length x).facts)
      have HR7 := Lib.hid (((HR6.out.far1 HGG.out.2.2.2.2.2.2.2.2.2 1 (.int .i64 x)).far1 (fun e => HGG.out.2.2.2.2.2.2.2.1 e.symm) 0 (.slice (some ⟨g2, 0, none⟩) zs.length zs.length)).far1 (fun e => HGG.out.2.2.2.2.2.2.2.1 e.symm) 1 (.int .i64 x))
      have HU7 := Lib.hid (Up.stored (Below.setCell (p := ⟨g3, 1, none⟩) (show Up w w5 by (repeat (first | exact Below.refl _ _ | exact Go.RowKit.Hid.out (by assumption) | refine Up.trans ?_ (Up.drew _) | refine Up.trans ?_ (Up.drewN _ _) | refine Up.trans ?_ (Up.alloc _ _) | refine Up.trans ?_ (Go.RowKit.Hid.out (by assumption))))) HGG.out.2.2.2.1 (.int .i64 x)) HGG.out.2.1 (.slice (some ⟨g2, 0, none⟩) zs.length zs.length) (.int .i64 x))
      go_wp2
      obtain ⟨z0, z1, -, -, -⟩ := HF7.out
      refine bodyPost_ret (by simp [results, Tryz.results78, go_sem, z0, z1]; try rfl) rfl ?_
      exact ⟨some ⟨g2, 0, none⟩, rfl, by have := HR7.out.rd zs.length; rwa [List.take_length] at this, fun b off e => by cases e; exact HGG.out.2.2.1, HU7.out⟩
end Go.Proofs.YtgcmogldiahdpaaGreatDoor
namespace Go.Proofs.YtgcmogldiahdpaaGreatDoor
open Go.RowKit Fm
theorem primF_length (f : List Int × Int) : (primF f).1.length = f.1.length := by
  unfold primF
  rw [List.length_take, primR_length]
  simp [rowF]
theorem primF_lim1 {f : List Int × Int} (h : (rowF f).all limI = true) : (primF f).1.all limI = true := by
  have hp := primR_lim h
  rw [List.all_eq_true] at hp ⊢
  exact fun y hy => hp y (List.mem_of_mem_take hy)
theorem primF_lim2 {f : List Int × Int} (h : (rowF f).all limI = true) : limI (primF f).2 = true := by
  have hp := primR_lim h
  rw [List.all_eq_true] at hp
  have hl : f.1.length < (primR (rowF f)).length := by rw [primR_length]; simp [rowF]
  refine hp _ ?_
  show (primR (rowF f)).getD f.1.length 0 ∈ primR (rowF f)
  rw [List.getD_eq_getElem?_getD, List.getElem?_eq_getElem hl]
  exact List.getElem_mem hl
set_option maxHeartbeats 1000000 in
set_option maxRecDepth 10000 in
theorem refPrim_good (A : Option Addr) (c n : Nat) (f : List Int × Int) (w : World) (hn : n ≤ 8) (hfl : f.1.length = n) (hr : RdI w A f.1) (hv : validF n f = true) :
    Calls Tryz.prog 21 #[.int .i64 n, .agg #[.slice A f.1.length c, .int .i64 f.2]] w fun e w' => ∃ A' c', e = .returned (.tuple #[.agg #[.slice A' (primF f).1.length c', .int .i64 (primF f).2], .int .i64 0]) ∧ RdI w' A' (primF f).1 ∧ Up w w' := by
  have hlim := rowF_lim hv
  have hl1 : ∀ y, y ∈ f.1 → limI y = true := by
    rw [List.all_eq_true] at hlim
    exact fun y hy => hlim y (List.mem_append_left _ hy)
  have hl2 : limI f.2 = true := by
    rw [List.all_eq_true] at hlim
    exact hlim f.2 (by simp [rowF])
  have hp1 := primF_lim1 hlim
  have hp2 := primF_lim2 hlim
  have hpl := primF_length f
  have hb1 : ∀ y, limI y = true → -2305843009213693952 < y ∧ y < 2305843009213693952 := fun y h => by
    simp only [limI, decide_eq_true_eq] at h
    omega
  have hb2 : ∀ y, limI y = true → y.natAbs < 2305843009213693952 := fun y h => by
    have := hb1 y h
    omega
  have HV := Lib.hid (fun W (hu : Up w W) => refValidForm_any A c n f W (by omega) (hr.up hu))
  rw [hv] at HV
  have HT := Lib.hid (fun W (hu : Up w W) => refRowTo_any A c f.1 f.2 W (by omega) (hr.up hu) (fun y hy => hb1 y (hl1 y hy)) (by have := hb1 _ hl2; omega))
  have HP := Lib.hid (fun W0 W v (h : RowQ W0 W v f.1 f.2) => (show Calls Tryz.prog 79 #[v] W (fun e w' => ∃ v, e = .returned v ∧ RowR w' v (primF f).1 (primF f).2 ∧ Up W w') from by
    obtain ⟨A1, c1, s1, b1, A2, n2, c2, rfl, h1, h2, h3, h4, -⟩ := h
    exact refPrimed_form A1 A2 c1 c2 n2 s1 b1 f W (by omega) h1 h2 h3 h4 (fun z hz => hb2 z (hl1 z hz)) (hb2 _ hl2)))
  have HF := Lib.hid (fun W v (h : RowR W v (primF f).1 (primF f).2) => (show Calls Tryz.prog 78 #[v] W (fun e w' => ∃ A', e = .returned (.tuple #[.agg #[.slice A' (primF f).1.length (primF f).1.length, .int .i64 (primF f).2], .bool true]) ∧ RdI w' A' (primF f).1 ∧ (∀ b off, A' = some ⟨b, off, none⟩ → W.heap.size ≤ b) ∧ Up W w') from by
    obtain ⟨A1, c1, s1, b1, A2, n2, c2, rfl, h1, h2, h3, h4⟩ := h
    exact refFrom_form A1 A2 c1 c2 n2 s1 b1 (primF f).1 (primF f).2 W (by omega) h3 h4 hp1 hp2))
  have HLN := Lib.hid (show (primF f).1.length ≤ 8 by omega)
  generalize primF f = q at *
  obtain ⟨qs, y⟩ := q
  simp only at HF HP HLN ⊢
  clear hlim hl1 hl2 hp1 hp2 hpl hb1 hb2 hv hr
  clear hfl hn
  generalize qs.length = m at *
  go_enter Tryz.func21, Tryz.ntmps21
  go_wp2_with fail
  refine Calls.mono (HV.out _ (by (repeat (first | exact Below.refl _ _ | exact Go.RowKit.Hid.out (by assumption) | refine Up.trans ?_ (Up.drew _) | refine Up.trans ?_ (Up.drewN _ _) | refine Up.trans ?_ (Up.alloc _ _) | refine Up.trans ?_ (Go.RowKit.Hid.out (by assumption)))))) ?_
  rintro e w1 ⟨rfl, hu⟩
  have HU1 := Lib.hid hu
  clear hu
  have HF0 := Lib.hid ((CellF.new w A f.1.length c f.2).up ((Up.alloc _ (.cells #[.slice none 0 0, .int .i64 0] 33)).trans HU1.out))
  have HR0 := Lib.hid ((CellF.new (w.alloc (.cells #[.slice A f.1.length c, .int .i64 f.2] 33)) none 0 0 0).up HU1.out)
  rw [size_alloc] at HR0
  have HUW := Lib.hid (((Up.alloc w (.cells #[.slice A f.1.length c, .int .i64 f.2] 33)).trans (Up.alloc _ (.cells #[.slice none 0 0, .int .i64 0] 33))).trans HU1.out)
  obtain ⟨g0, hg0⟩ : ∃ g0, g0 = w.heap.size := ⟨_, rfl⟩
  obtain ⟨g1, hg1⟩ : ∃ g1, g1 = w.heap.size + 1 := ⟨_, rfl⟩
  have HGR := Lib.hid (show w.heap.size ≤ g1 by omega)
  rw [← hg0] at HF0
  rw [← hg1] at HR0
  rw [← hg1, ← hg0]
  clear hg0 hg1
  obtain ⟨p0, p1, -, -, lg⟩ := HF0.out.facts
  go_wp2_with fail
  refine Calls.mono (HT.out _ (by (repeat (first | exact Below.refl _ _ | exact Go.RowKit.Hid.out (by assumption) | refine Up.trans ?_ (Up.drew _) | refine Up.trans ?_ (Up.drewN _ _) | refine Up.trans ?_ (Up.alloc _ _) | refine Up.trans ?_ (Go.RowKit.Hid.out (by assumption)))))) ?_
  rintro e w2 ⟨v2, rfl, hv2, hu⟩
  have HU2 := Lib.hid hu
  have HV2 := Lib.hid hv2
  clear hu hv2 p0 p1 lg
  go_wp2_with fail
  refine Calls.mono (HP.out _ _ _ HV2.out) ?_
  rintro e w3 ⟨v3, rfl, hv3, hu⟩
  have HU3 := Lib.hid hu
  have HV3 := Lib.hid hv3
  clear hu hv3
  go_wp2_with fail
  refine Calls.mono (HF.out _ _ HV3.out) ?_
  rintro e w4 ⟨A4, rfl, hrd, hfr, hu⟩
  have HU4 := Lib.hid hu
  have HRD := Lib.hid hrd
  have HR8 := Lib.hid (HR0.out.up (w' := w4) (by (repeat (first | exact Below.refl _ _ | exact Go.RowKit.Hid.out (by assumption) | refine Up.trans ?_ (Up.drew _) | refine Up.trans ?_ (Up.drewN _ _) | refine Up.trans ?_ (Up.alloc _ _) | refine Up.trans ?_ (Go.RowKit.Hid.out (by assumption))))))
  have HNE : Hid (∀ b off, A4 = some ⟨b, off, none⟩ → b ≠ g1) := Lib.hid (fun b off e => by
    have h1 := hfr b off e
    have h2 := (HR0.out.up (w' := w3) (by (repeat (first | exact Below.refl _ _ | exact Go.RowKit.Hid.out (by assumption) | refine Up.trans ?_ (Up.drew _) | refine Up.trans ?_ (Up.drewN _ _) | refine Up.trans ?_ (Up.alloc _ _) | refine Up.trans ?_ (Go.RowKit.Hid.out (by assumption)))))).lt
    omega)
  clear hu hrd hfr
  have HUL := Lib.hid (Up.alloc ((w4.setCell ⟨g1, 0, none⟩ (.slice A4 m m)).setCell ⟨g1, 1, none⟩ (.int .i64 y)) (.cells #[.slice A4 m m, .int .i64 y] 33))
  obtain ⟨r0, r1, f0, f1, lr⟩ := HR8.out.facts
  have HFF := Lib.hid (((HR8.out.set A4 m m y).up HUL.out).facts)
  have HRP := Lib.hid ((((HRD.out).put HNE.out 0 (.slice A4 m m)).put HNE.out 1 (.int .i64 y)).up HUL.out)
  have HUF := Lib.hid (((show Up w w4 by (repeat (first | exact Below.refl _ _ | exact Go.RowKit.Hid.out (by assumption) | refine Up.trans ?_ (Up.drew _) | refine Up.trans ?_ (Up.drewN _ _) | refine Up.trans ?_ (Up.alloc _ _) | refine Up.trans ?_ (Go.RowKit.Hid.out (by assumption))))).stored HGR.out (.slice A4 m m) (.int .i64 y)).trans HUL.out)
  go_wp2
  obtain ⟨z0, z1, -, -, -⟩ := HFF.out
  refine bodyPost_ret (by simp [results, Tryz.results21, go_sem, z0, z1]; try rfl) rfl ?_
  exact ⟨A4, m, rfl, HRP.out, HUF.out⟩
end Go.Proofs.YtgcmogldiahdpaaGreatDoor
namespace Go.Proofs.YtgcmogldiahdpaaGreatDoor
open Go.RowKit Fm
theorem dim_nat {n : Int} (h : dimI n = true) : ∃ m : Nat, n = m ∧ m ≤ 8 := by
  simp only [dimI, decide_eq_true_eq] at h
  exact ⟨n.toNat, by omega, by omega⟩
theorem validF_dim {n : Int} {f : List Int × Int} (h : validF n f = true) : ∃ m : Nat, n = m ∧ m ≤ 8 ∧ f.1.length = m := by
  simp only [validF, Bool.and_eq_true, decide_eq_true_eq] at h
  obtain ⟨m, rfl, hm⟩ := dim_nat h.1.1.1
  exact ⟨m, rfl, hm, by omega⟩
theorem validP_len {n : Int} {xs : List (Int × Int)} (h : validP n xs = true) : (xs.length : Int) = n := by
  simp only [validP, Bool.and_eq_true, decide_eq_true_eq] at h
  exact h.1.2
/-- Value of the program and of the reference answer alike. -/
theorem value_alike (A B : Option Addr) (c d : Nat) (n : Int) (f : List Int × Int) (xs : List (Int × Int)) (w : World) (hf : f.1.length ≤ 9223372036854775807) (hr : RdI w A f.1) (hd : xs.length ≤ d) (hdm : d ≤ maxLen) (hs : RdN w B xs) (hx : ∀ p, p ∈ xs → Rng p.1 p.2) (ht : Tab w) :
    ∃ X Y E : Int, (∀ W, Up w W → Calls Tryz.prog 18 #[.int .i64 n, .agg #[.slice A f.1.length c, .int .i64 f.2], .slice B xs.length d] W fun e w' => e = .returned (.tuple #[.agg #[.int .i64 X, .int .i64 Y], .int .i64 E]) ∧ Up W w') ∧
      (∀ W, Up w W → Calls Tryz.prog 19 #[.int .i64 n, .agg #[.slice A f.1.length c, .int .i64 f.2], .slice B xs.length d] W fun e w' => e = .returned (.tuple #[.agg #[.int .i64 X, .int .i64 Y], .int .i64 E]) ∧ Up W w') := by
  have hl := fun W (hu : Up w W) => validForm_any A c n f W hf (hr.up hu)
  have hl2 := fun W (hu : Up w W) => refValidForm_any A c n f W hf (hr.up hu)
  have hp := fun W (hu : Up w W) => linValidPoint_any B d n xs W hd hdm (hs.up hu) hx (ht.up hu)
  have hp2 := fun W (hu : Up w W) => refValidPoint_any B d n xs W hd hdm (hs.up hu) hx
  rcases h1 : validF n f with _ | _
  · rw [h1] at hl hl2
    exact ⟨0, 0, 1, fun W hu => linValue_bad1 A B c d f.1.length xs.length n f.2 W (Lib.hid fun W' hu' => hl W' (hu.trans hu')), fun W hu => refValue_bad1 A B c d f.1.length xs.length n f.2 W (Lib.hid fun W' hu' => hl2 W' (hu.trans hu'))⟩
  · rcases h2 : validP n xs with _ | _
    · rw [h1] at hl hl2
      rw [h2] at hp hp2
      exact ⟨0, 0, 1, fun W hu => linValue_bad2 A B c d f.1.length xs.length n f.2 W (Lib.hid fun W' hu' => hl W' (hu.trans hu')) (Lib.hid fun W' hu' => hp W' (hu.trans hu')), fun W hu => refValue_bad2 A B c d f.1.length xs.length n f.2 W (Lib.hid fun W' hu' => hl2 W' (hu.trans hu')) (Lib.hid fun W' hu' => hp2 W' (hu.trans hu'))⟩
    · obtain ⟨m, rfl, hm, hfl⟩ := validF_dim h1
      have hxl : xs.length = m := by have := validP_len h2; omega
      exact ⟨_, _, _, fun W hu => linValue_ok A B c d m f xs W hm hfl hxl hd hdm (hr.up hu) (hs.up hu) h1 h2 hx (ht.up hu), fun W hu => refValue_good A B c d m f xs W hm hfl hxl hd hdm (hr.up hu) (hs.up hu) h1 h2 hx⟩
/-- Primitive of the program and of the reference answer alike. -/
theorem prim_alike (A : Option Addr) (c : Nat) (n : Int) (f : List Int × Int) (w : World) (hf : f.1.length ≤ 9223372036854775807) (hr : RdI w A f.1) (ht : Tab w) :
    ∃ (q : List Int × Int) (E : Int), q.1.length ≤ 8 ∧ (∀ W, Up w W → Calls Tryz.prog 20 #[.int .i64 n, .agg #[.slice A f.1.length c, .int .i64 f.2]] W fun e w' => ∃ A' c', e = .returned (.tuple #[.agg #[.slice A' q.1.length c', .int .i64 q.2], .int .i64 E]) ∧ RdI w' A' q.1 ∧ Up W w') ∧
      (∀ W, Up w W → Calls Tryz.prog 21 #[.int .i64 n, .agg #[.slice A f.1.length c, .int .i64 f.2]] W fun e w' => ∃ A' c', e = .returned (.tuple #[.agg #[.slice A' q.1.length c', .int .i64 q.2], .int .i64 E]) ∧ RdI w' A' q.1 ∧ Up W w') := by
  have hl := fun W (hu : Up w W) => validForm_any A c n f W hf (hr.up hu)
  have hl2 := fun W (hu : Up w W) => refValidForm_any A c n f W hf (hr.up hu)
  rcases h1 : validF n f with _ | _
  · rw [h1] at hl hl2
    exact ⟨([], 0), 1, by simp, fun W hu => Calls.mono (linPrim_bad A c f.1.length n f.2 W (Lib.hid fun W' hu' => hl W' (hu.trans hu'))) (by rintro e w' ⟨rfl, h⟩; exact ⟨none, 0, rfl, fun h => absurd rfl h, h⟩),
      fun W hu => Calls.mono (refPrim_bad A c f.1.length n f.2 W (Lib.hid fun W' hu' => hl2 W' (hu.trans hu'))) (by rintro e w' ⟨rfl, h⟩; exact ⟨none, 0, rfl, fun h => absurd rfl h, h⟩)⟩
  · obtain ⟨m, rfl, hm, hfl⟩ := validF_dim h1
    have hpl : (primF f).1.length = m := (primF_length f).trans hfl
    exact ⟨primF f, 0, by omega, fun W hu => Calls.mono (linPrim_ok A c m f W hm hfl (hr.up hu) h1 (ht.up hu)) (by rintro e w' ⟨A', c', rfl, h⟩; exact ⟨A', c', by rw [hpl], h⟩), fun W hu => refPrim_good A c m f W hm hfl (hr.up hu) h1⟩
end Go.Proofs.YtgcmogldiahdpaaGreatDoor
namespace Go.Proofs.YtgcmogldiahdpaaGreatDoor
open Go.RowKit Fm
/-- A list of one form, written out. -/
theorem lit_form (w : World) (g : Nat) (A : Option Addr) (c : Nat) (f : List Int × Int) (hh : w.heap[g]? = some (.cells #[.slice A f.1.length c, .int .i64 f.2] 33 (0, 0))) (hc : f.1.length ≤ c) (hcm : c ≤ maxLen) (hr : RdI w A f.1) : RdE eltForm w (some ⟨g, 0, none⟩) [f] := fun _ => by
  refine ⟨g, 0, rfl, ?_, fun i hi => ?_⟩
  · rcases Nat.lt_or_ge g w.heap.size with h1 | h1
    · exact h1
    · rw [Array.getElem?_eq_none h1] at hh; cases hh
  · obtain rfl : i = 0 := by simp at hi; omega
    refine ⟨[.slice A f.1.length c, .int .i64 f.2], ⟨A, c, rfl, hc, hcm, hr, fun g hg => by cases hg⟩, fun j u hj => ?_⟩
    rw [cell_of_row w g _ _ _ _ hh, Nat.zero_mul, Nat.add_zero, Nat.zero_add]
    match j, hj with
    | 0, hj => simpa using hj
    | 1, hj => simpa using hj
set_option maxHeartbeats 4000000 in
set_option maxRecDepth 10000 in
theorem linFormsLaw_any (A B : Option Addr) (c d : Nat) (n : Int) (f : List Int × Int) (xs : List (Int × Int)) (w : World) (hc : f.1.length ≤ c) (hcm : c ≤ maxLen) (hr : RdI w A f.1) (hd : xs.length ≤ d) (hdm : d ≤ maxLen) (hs : RdN w B xs) (hx : ∀ p, p ∈ xs → Rng p.1 p.2) (ht : Tab w) :
    Calls Tryz.prog 4 #[.int .i64 n, .agg #[.slice A f.1.length c, .int .i64 f.2], .slice B xs.length d] w fun e w' => e = .returned (.bool true) ∧ Up w w' := by
  have hcl : f.1.length ≤ 9223372036854775807 := by unfold maxLen at hcm; omega
  obtain ⟨X, Y, E, hv1, hv2⟩ := value_alike A B c d n f xs w hcl hr hd hdm hs hx ht
  obtain ⟨q, E2, hql, hp1, hp2⟩ := prim_alike A c n f w hcl hr ht
  have HV1 := Lib.hid hv1
  have HV2 := Lib.hid hv2
  have HP1 := Lib.hid hp1
  have HP2 := Lib.hid hp2
  have HFW := Lib.hid (fun W g (hu : Up w W) (hh : W.heap[g]? = some (.cells #[.slice A f.1.length c, .int .i64 f.2] 33 (0, 0))) => few_any (some ⟨g, 0, none⟩) 1 [f] W (by simp) (lit_form W g A c f hh hc hcm (hr.up hu)))
  have HLF := Lib.hid (fun W (hu : Up w W) => validForm_any A c n f W hcl (hr.up hu))
  have HRF := Lib.hid (fun W (hu : Up w W) => refValidForm_any A c n f W hcl (hr.up hu))
  have HLP := Lib.hid (fun W (hu : Up w W) => linValidPoint_any B d n xs W hd hdm (hs.up hu) hx (ht.up hu))
  have HRP := Lib.hid (fun W (hu : Up w W) => refValidPoint_any B d n xs W hd hdm (hs.up hu) hx)
  have HAW := Lib.hid (fun W (hu : Up w W) => linAwake_any W (ht.up hu))
  have HSF := Lib.hid (fun A1 A2 c1 c2 W (h1 : RdI W A1 q.1) (h2 : RdI W A2 q.1) => sameForm_any A1 A2 c1 c2 q q W (by omega) (by omega) h1 h2)
  rw [show decide (q = q) = true from by simp] at HSF
  have HDL := Lib.hid (And.intro hd hdm)
  have hxl : xs.length ≤ 9223372036854775807 := by unfold maxLen at hdm; omega
  generalize fewF [f] = few at *
  generalize validF n f = vf at *
  generalize validP n xs = vp at *
  clear hv1 hv2 hp1 hp2 hr hs hx ht hc hcm hd hdm
  go_enter Tryz.func4, Tryz.ntmps4
  go_wp2_with fail
  have HU0 := Lib.hid ((Up.alloc w (.cells #[.slice A f.1.length c, .int .i64 f.2] 33)).trans (Up.alloc _ (.cells #[.slice A f.1.length c, .int .i64 f.2] 33)))
  have HC0 := Lib.hid ((CellF.new w A f.1.length c f.2).up (Up.alloc _ (.cells #[.slice A f.1.length c, .int .i64 f.2] 33)))
  refine Calls.mono (HFW.out _ _ HU0.out (by rw [← size_alloc w (.cells #[.slice A f.1.length c, .int .i64 f.2] 33)]; exact heap_alloc_new _ _)) ?_
  rintro e w1 ⟨rfl, hu⟩
  have HU1 := Lib.hid (HU0.out.trans hu)
  have HC1 := Lib.hid (HC0.out.up hu)
  clear hu HC0 HU0
  obtain ⟨g0, hg0⟩ : ∃ g0, g0 = w.heap.size := ⟨_, rfl⟩
  rw [← hg0] at HC1 ⊢
  clear hg0
  cases few
  · go_wp2_with fail
    refine Calls.mono (HAW.out _ (by (repeat (first | exact Below.refl _ _ | exact Go.RowKit.Hid.out (by assumption) | refine Up.trans ?_ (Up.drew _) | refine Up.trans ?_ (Up.drewN _ _) | refine Up.trans ?_ (Up.alloc _ _) | refine Up.trans ?_ (Go.RowKit.Hid.out (by assumption)))))) ?_
    rintro e w2 ⟨rfl, hu⟩
    go_wp2
    go_ret
    exact ⟨rfl, HU1.out.trans hu⟩
  by_cases h40 : xs.length ≤ 40
  · have i0 : ¬ (40 : Int) < (xs.length : Int) := by omega
    clear h40
    obtain ⟨p0, p1, -, -, lg⟩ := HC1.out.facts
    go_wp2_with fail
    refine Calls.mono (HV1.out _ (by (repeat (first | exact Below.refl _ _ | exact Go.RowKit.Hid.out (by assumption) | refine Up.trans ?_ (Up.drew _) | refine Up.trans ?_ (Up.drewN _ _) | refine Up.trans ?_ (Up.alloc _ _) | refine Up.trans ?_ (Go.RowKit.Hid.out (by assumption)))))) ?_
    rintro e w2 ⟨rfl, hu⟩
    have HU2 := Lib.hid (HU1.out.trans hu)
    have HC2 := Lib.hid (HC1.out.up hu)
    clear hu p0 p1 lg
    obtain ⟨p0, p1, -, -, lg⟩ := HC2.out.facts
    go_wp2_with fail
    have HA2 := Lib.hid (CellN.new w2 X Y)
    have HUA := Lib.hid (Up.alloc w2 (.cells #[.int .i64 X, .int .i64 Y] 23))
    refine Calls.mono (HV2.out _ (by (repeat (first | exact Below.refl _ _ | exact Go.RowKit.Hid.out (by assumption) | refine Up.trans ?_ (Up.drew _) | refine Up.trans ?_ (Up.drewN _ _) | refine Up.trans ?_ (Up.alloc _ _) | refine Up.trans ?_ (Go.RowKit.Hid.out (by assumption)))))) ?_
    rintro e w3 ⟨rfl, hu⟩
    have st := HUA.out.trans hu
    have HU3 := Lib.hid (HU2.out.trans st)
    have HC3 := Lib.hid (HC2.out.up st)
    have HA3 := Lib.hid (HA2.out.up hu)
    obtain ⟨ga, hga⟩ : ∃ ga, ga = w2.heap.size := ⟨_, rfl⟩
    rw [← hga] at HA3 ⊢
    clear hu st p0 p1 lg hga HA2 HUA HU2 HU1 HC2 HC1
    obtain ⟨p0, p1, -, -, lg⟩ := HC3.out.facts
    go_wp2_with fail
    have HB3 := Lib.hid (CellN.new w3 X Y)
    have HUB := Lib.hid (Up.alloc w3 (.cells #[.int .i64 X, .int .i64 Y] 23))
    refine Calls.mono (HP1.out _ (by (repeat (first | exact Below.refl _ _ | exact Go.RowKit.Hid.out (by assumption) | refine Up.trans ?_ (Up.drew _) | refine Up.trans ?_ (Up.drewN _ _) | refine Up.trans ?_ (Up.alloc _ _) | refine Up.trans ?_ (Go.RowKit.Hid.out (by assumption)))))) ?_
    rintro e w4 ⟨A4, c4, rfl, hrd, hu⟩
    have st := HUB.out.trans hu
    have HU4 := Lib.hid (HU3.out.trans st)
    have HC4 := Lib.hid (HC3.out.up st)
    have HA4 := Lib.hid (HA3.out.up st)
    have HB4 := Lib.hid (HB3.out.up hu)
    have HR4 := Lib.hid hrd
    obtain ⟨gb, hgb⟩ : ∃ gb, gb = w3.heap.size := ⟨_, rfl⟩
    rw [← hgb] at HB4 ⊢
    clear hu st hrd p0 p1 lg hgb HB3 HUB HU3 HC3 HA3
    obtain ⟨p0, p1, -, -, lg⟩ := HC4.out.facts
    go_wp2_with fail
    have HP3 := Lib.hid (CellF.new w4 A4 q.1.length c4 q.2)
    have HUP := Lib.hid (Up.alloc w4 (.cells #[.slice A4 q.1.length c4, .int .i64 q.2] 33))
    refine Calls.mono (HP2.out _ (by (repeat (first | exact Below.refl _ _ | exact Go.RowKit.Hid.out (by assumption) | refine Up.trans ?_ (Up.drew _) | refine Up.trans ?_ (Up.drewN _ _) | refine Up.trans ?_ (Up.alloc _ _) | refine Up.trans ?_ (Go.RowKit.Hid.out (by assumption)))))) ?_
    rintro e w5 ⟨A5, c5, rfl, hrd, hu⟩
    have st := HUP.out.trans hu
    have HU5 := Lib.hid (HU4.out.trans st)
    have HC5 := Lib.hid (HC4.out.up st)
    have HA5 := Lib.hid (HA4.out.up st)
    have HB5 := Lib.hid (HB4.out.up st)
    have HP5 := Lib.hid (HP3.out.up hu)
    have HR5 := Lib.hid (HR4.out.up st)
    have HS5 := Lib.hid hrd
    obtain ⟨gp, hgp⟩ : ∃ gp, gp = w4.heap.size := ⟨_, rfl⟩
    rw [← hgp] at HP5 ⊢
    clear hu st hrd p0 p1 lg hgp HP3 HUP HU4 HC4 HA4 HB4 HR4
    obtain ⟨p0, p1, -, -, lg⟩ := HC5.out.facts
    go_upto_region 7 with fail
    have HQ6 := Lib.hid (CellF.new w5 A5 q.1.length c5 q.2)
    have HUQ := Lib.hid (Up.alloc w5 (.cells #[.slice A5 q.1.length c5, .int .i64 q.2] 33))
    obtain ⟨wQ, hwQ⟩ : ∃ wQ, wQ = w5.alloc (.cells #[.slice A5 q.1.length c5, .int .i64 q.2] 33) := ⟨_, rfl⟩
    obtain ⟨gq, hgq⟩ : ∃ gq, gq = w5.heap.size := ⟨_, rfl⟩
    rw [← hwQ] at HQ6 HUQ ⊢
    rw [← hgq] at HQ6 ⊢
    have HC6 := Lib.hid (HC5.out.up HUQ.out)
    have HA6 := Lib.hid (HA5.out.up HUQ.out)
    have HB6 := Lib.hid (HB5.out.up HUQ.out)
    have HP6 := Lib.hid (HP5.out.up HUQ.out)
    have HR6 := Lib.hid (HR5.out.up HUQ.out)
    have HS6 := Lib.hid (HS5.out.up HUQ.out)
    have HU6 := Lib.hid (HU5.out.trans HUQ.out)
    clear hwQ hgq p0 p1 lg HUQ HU5 HC5 HA5 HB5 HP5 HR5 HS5 HV1 HV2 HP1 HP2
    obtain ⟨p0, p1, -, -, lp⟩ := HC6.out.facts
    obtain ⟨a0, a1, -, -, la⟩ := HA6.out.facts
    obtain ⟨b0, b1, -, -, lb⟩ := HB6.out.facts
    obtain ⟨r0, r1, -, -, lr⟩ := HP6.out.facts
    obtain ⟨q0, q1, -, -, lq⟩ := HQ6.out.facts
    go_region_held3 (fun w' => w'.cell? ⟨g0, 0, none⟩ = some (.slice A f.1.length c) ∧ w'.cell? ⟨g0, 1, none⟩ = some (.int .i64 f.2) ∧ w'.cell? ⟨ga, 0, none⟩ = some (.int .i64 X) ∧ w'.cell? ⟨ga, 1, none⟩ = some (.int .i64 Y) ∧ w'.cell? ⟨gb, 0, none⟩ = some (.int .i64 X) ∧ w'.cell? ⟨gb, 1, none⟩ = some (.int .i64 Y) ∧ w'.cell? ⟨gp, 0, none⟩ = some (.slice A4 q.1.length c4) ∧ w'.cell? ⟨gp, 1, none⟩ = some (.int .i64 q.2) ∧ w'.cell? ⟨gq, 0, none⟩ = some (.slice A5 q.1.length c5) ∧ w'.cell? ⟨gq, 1, none⟩ = some (.int .i64 q.2)) (go_keep)
      ((first
        | (go_at_call 22
           refine Calls.mono (HLP.out _ (by (repeat (first | exact Below.refl _ _ | exact Go.RowKit.Hid.out (by assumption) | refine Up.trans ?_ (Up.drew _) | refine Up.trans ?_ (Up.drewN _ _) | refine Up.trans ?_ (Up.alloc _ _) | refine Up.trans ?_ (Go.RowKit.Hid.out (by assumption)))))) ?_
           rintro e w6 ⟨rfl, hu⟩
           have HU6 := Lib.hid hu
           obtain ⟨p0, p1, -, -, lp⟩ := (HC6.out.up (w' := w6) (by (repeat (first | exact Below.refl _ _ | exact Go.RowKit.Hid.out (by assumption) | refine Up.trans ?_ (Up.drew _) | refine Up.trans ?_ (Up.drewN _ _) | refine Up.trans ?_ (Up.alloc _ _) | refine Up.trans ?_ (Go.RowKit.Hid.out (by assumption)))))).facts
           obtain ⟨a0, a1, -, -, la⟩ := (HA6.out.up (w' := w6) (by (repeat (first | exact Below.refl _ _ | exact Go.RowKit.Hid.out (by assumption) | refine Up.trans ?_ (Up.drew _) | refine Up.trans ?_ (Up.drewN _ _) | refine Up.trans ?_ (Up.alloc _ _) | refine Up.trans ?_ (Go.RowKit.Hid.out (by assumption)))))).facts
           obtain ⟨b0, b1, -, -, lb⟩ := (HB6.out.up (w' := w6) (by (repeat (first | exact Below.refl _ _ | exact Go.RowKit.Hid.out (by assumption) | refine Up.trans ?_ (Up.drew _) | refine Up.trans ?_ (Up.drewN _ _) | refine Up.trans ?_ (Up.alloc _ _) | refine Up.trans ?_ (Go.RowKit.Hid.out (by assumption)))))).facts
           obtain ⟨r0, r1, -, -, lr⟩ := (HP6.out.up (w' := w6) (by (repeat (first | exact Below.refl _ _ | exact Go.RowKit.Hid.out (by assumption) | refine Up.trans ?_ (Up.drew _) | refine Up.trans ?_ (Up.drewN _ _) | refine Up.trans ?_ (Up.alloc _ _) | refine Up.trans ?_ (Go.RowKit.Hid.out (by assumption)))))).facts
           obtain ⟨q0, q1, -, -, lq⟩ := (HQ6.out.up (w' := w6) (by (repeat (first | exact Below.refl _ _ | exact Go.RowKit.Hid.out (by assumption) | refine Up.trans ?_ (Up.drew _) | refine Up.trans ?_ (Up.drewN _ _) | refine Up.trans ?_ (Up.alloc _ _) | refine Up.trans ?_ (Go.RowKit.Hid.out (by assumption)))))).facts
           clear hu)
        | (go_at_call 23
           refine Calls.mono (HRP.out _ (by (repeat (first | exact Below.refl _ _ | exact Go.RowKit.Hid.out (by assumption) | refine Up.trans ?_ (Up.drew _) | refine Up.trans ?_ (Up.drewN _ _) | refine Up.trans ?_ (Up.alloc _ _) | refine Up.trans ?_ (Go.RowKit.Hid.out (by assumption)))))) ?_
           rintro e w6 ⟨rfl, hu⟩
           have HU6 := Lib.hid hu
           obtain ⟨p0, p1, -, -, lp⟩ := (HC6.out.up (w' := w6) (by (repeat (first | exact Below.refl _ _ | exact Go.RowKit.Hid.out (by assumption) | refine Up.trans ?_ (Up.drew _) | refine Up.trans ?_ (Up.drewN _ _) | refine Up.trans ?_ (Up.alloc _ _) | refine Up.trans ?_ (Go.RowKit.Hid.out (by assumption)))))).facts
           obtain ⟨a0, a1, -, -, la⟩ := (HA6.out.up (w' := w6) (by (repeat (first | exact Below.refl _ _ | exact Go.RowKit.Hid.out (by assumption) | refine Up.trans ?_ (Up.drew _) | refine Up.trans ?_ (Up.drewN _ _) | refine Up.trans ?_ (Up.alloc _ _) | refine Up.trans ?_ (Go.RowKit.Hid.out (by assumption)))))).facts
           obtain ⟨b0, b1, -, -, lb⟩ := (HB6.out.up (w' := w6) (by (repeat (first | exact Below.refl _ _ | exact Go.RowKit.Hid.out (by assumption) | refine Up.trans ?_ (Up.drew _) | refine Up.trans ?_ (Up.drewN _ _) | refine Up.trans ?_ (Up.alloc _ _) | refine Up.trans ?_ (Go.RowKit.Hid.out (by assumption)))))).facts
           obtain ⟨r0, r1, -, -, lr⟩ := (HP6.out.up (w' := w6) (by (repeat (first | exact Below.refl _ _ | exact Go.RowKit.Hid.out (by assumption) | refine Up.trans ?_ (Up.drew _) | refine Up.trans ?_ (Up.drewN _ _) | refine Up.trans ?_ (Up.alloc _ _) | refine Up.trans ?_ (Go.RowKit.Hid.out (by assumption)))))).facts
           obtain ⟨q0, q1, -, -, lq⟩ := (HQ6.out.up (w' := w6) (by (repeat (first | exact Below.refl _ _ | exact Go.RowKit.Hid.out (by assumption) | refine Up.trans ?_ (Up.drew _) | refine Up.trans ?_ (Up.drewN _ _) | refine Up.trans ?_ (Up.alloc _ _) | refine Up.trans ?_ (Go.RowKit.Hid.out (by assumption)))))).facts
           clear hu)
        | (go_at_call 24
           refine Calls.mono (HLF.out _ (by (repeat (first | exact Below.refl _ _ | exact Go.RowKit.Hid.out (by assumption) | refine Up.trans ?_ (Up.drew _) | refine Up.trans ?_ (Up.drewN _ _) | refine Up.trans ?_ (Up.alloc _ _) | refine Up.trans ?_ (Go.RowKit.Hid.out (by assumption)))))) ?_
           rintro e w6 ⟨rfl, hu⟩
           have HU6 := Lib.hid hu
           obtain ⟨p0, p1, -, -, lp⟩ := (HC6.out.up (w' := w6) (by (repeat (first | exact Below.refl _ _ | exact Go.RowKit.Hid.out (by assumption) | refine Up.trans ?_ (Up.drew _) | refine Up.trans ?_ (Up.drewN _ _) | refine Up.trans ?_ (Up.alloc _ _) | refine Up.trans ?_ (Go.RowKit.Hid.out (by assumption)))))).facts
           obtain ⟨a0, a1, -, -, la⟩ := (HA6.out.up (w' := w6) (by (repeat (first | exact Below.refl _ _ | exact Go.RowKit.Hid.out (by assumption) | refine Up.trans ?_ (Up.drew _) | refine Up.trans ?_ (Up.drewN _ _) | refine Up.trans ?_ (Up.alloc _ _) | refine Up.trans ?_ (Go.RowKit.Hid.out (by assumption)))))).facts
           obtain ⟨b0, b1, -, -, lb⟩ := (HB6.out.up (w' := w6) (by (repeat (first | exact Below.refl _ _ | exact Go.RowKit.Hid.out (by assumption) | refine Up.trans ?_ (Up.drew _) | refine Up.trans ?_ (Up.drewN _ _) | refine Up.trans ?_ (Up.alloc _ _) | refine Up.trans ?_ (Go.RowKit.Hid.out (by assumption)))))).facts
           obtain ⟨r0, r1, -, -, lr⟩ := (HP6.out.up (w' := w6) (by (repeat (first | exact Below.refl _ _ | exact Go.RowKit.Hid.out (by assumption) | refine Up.trans ?_ (Up.drew _) | refine Up.trans ?_ (Up.drewN _ _) | refine Up.trans ?_ (Up.alloc _ _) | refine Up.trans ?_ (Go.RowKit.Hid.out (by assumption)))))).facts
           obtain ⟨q0, q1, -, -, lq⟩ := (HQ6.out.up (w' := w6) (by (repeat (first | exact Below.refl _ _ | exact Go.RowKit.Hid.out (by assumption) | refine Up.trans ?_ (Up.drew _) | refine Up.trans ?_ (Up.drewN _ _) | refine Up.trans ?_ (Up.alloc _ _) | refine Up.trans ?_ (Go.RowKit.Hid.out (by assumption)))))).facts
           clear hu)
        | (go_at_call 25
           refine Calls.mono (HRF.out _ (by (repeat (first | exact Below.refl _ _ | exact Go.RowKit.Hid.out (by assumption) | refine Up.trans ?_ (Up.drew _) | refine Up.trans ?_ (Up.drewN _ _) | refine Up.trans ?_ (Up.alloc _ _) | refine Up.trans ?_ (Go.RowKit.Hid.out (by assumption)))))) ?_
           rintro e w6 ⟨rfl, hu⟩
           have HU6 := Lib.hid hu
           obtain ⟨p0, p1, -, -, lp⟩ := (HC6.out.up (w' := w6) (by (repeat (first | exact Below.refl _ _ | exact Go.RowKit.Hid.out (by assumption) | refine Up.trans ?_ (Up.drew _) | refine Up.trans ?_ (Up.drewN _ _) | refine Up.trans ?_ (Up.alloc _ _) | refine Up.trans ?_ (Go.RowKit.Hid.out (by assumption)))))).facts
           obtain ⟨a0, a1, -, -, la⟩ := (HA6.out.up (w' := w6) (by (repeat (first | exact Below.refl _ _ | exact Go.RowKit.Hid.out (by assumption) | refine Up.trans ?_ (Up.drew _) | refine Up.trans ?_ (Up.drewN _ _) | refine Up.trans ?_ (Up.alloc _ _) | refine Up.trans ?_ (Go.RowKit.Hid.out (by assumption)))))).facts
           obtain ⟨b0, b1, -, -, lb⟩ := (HB6.out.up (w' := w6) (by (repeat (first | exact Below.refl _ _ | exact Go.RowKit.Hid.out (by assumption) | refine Up.trans ?_ (Up.drew _) | refine Up.trans ?_ (Up.drewN _ _) | refine Up.trans ?_ (Up.alloc _ _) | refine Up.trans ?_ (Go.RowKit.Hid.out (by assumption)))))).facts
           obtain ⟨r0, r1, -, -, lr⟩ := (HP6.out.up (w' := w6) (by (repeat (first | exact Below.refl _ _ | exact Go.RowKit.Hid.out (by assumption) | refine Up.trans ?_ (Up.drew _) | refine Up.trans ?_ (Up.drewN _ _) | refine Up.trans ?_ (Up.alloc _ _) | refine Up.trans ?_ (Go.RowKit.Hid.out (by assumption)))))).facts
           obtain ⟨q0, q1, -, -, lq⟩ := (HQ6.out.up (w' := w6) (by (repeat (first | exact Below.refl _ _ | exact Go.RowKit.Hid.out (by assumption) | refine Up.trans ?_ (Up.drew _) | refine Up.trans ?_ (Up.drewN _ _) | refine Up.trans ?_ (Up.alloc _ _) | refine Up.trans ?_ (Go.RowKit.Hid.out (by assumption)))))).facts
           clear hu)
        | (go_at_call 26
           refine Calls.mono (HSF.out _ _ _ _ _ (HR6.out.up (by (repeat (first | exact Below.refl _ _ | exact Go.RowKit.Hid.out (by assumption) | refine Up.trans ?_ (Up.drew _) | refine Up.trans ?_ (Up.drewN _ _) | refine Up.trans ?_ (Up.alloc _ _) | refine Up.trans ?_ (Go.RowKit.Hid.out (by assumption)))))) (HS6.out.up (by (repeat (first | exact Below.refl _ _ | exact Go.RowKit.Hid.out (by assumption) | refine Up.trans ?_ (Up.drew _) | refine Up.trans ?_ (Up.drewN _ _) | refine Up.trans ?_ (Up.alloc _ _) | refine Up.trans ?_ (Go.RowKit.Hid.out (by assumption))))))) ?_
           rintro e w6 ⟨rfl, hu⟩
           have HU6 := Lib.hid hu
           obtain ⟨p0, p1, -, -, lp⟩ := (HC6.out.up (w' := w6) (by (repeat (first | exact Below.refl _ _ | exact Go.RowKit.Hid.out (by assumption) | refine Up.trans ?_ (Up.drew _) | refine Up.trans ?_ (Up.drewN _ _) | refine Up.trans ?_ (Up.alloc _ _) | refine Up.trans ?_ (Go.RowKit.Hid.out (by assumption)))))).facts
           obtain ⟨a0, a1, -, -, la⟩ := (HA6.out.up (w' := w6) (by (repeat (first | exact Below.refl _ _ | exact Go.RowKit.Hid.out (by assumption) | refine Up.trans ?_ (Up.drew _) | refine Up.trans ?_ (Up.drewN _ _) | refine Up.trans ?_ (Up.alloc _ _) | refine Up.trans ?_ (Go.RowKit.Hid.out (by assumption)))))).facts
           obtain ⟨b0, b1, -, -, lb⟩ := (HB6.out.up (w' := w6) (by (repeat (first | exact Below.refl _ _ | exact Go.RowKit.Hid.out (by assumption) | refine Up.trans ?_ (Up.drew _) | refine Up.trans ?_ (Up.drewN _ _) | refine Up.trans ?_ (Up.alloc _ _) | refine Up.trans ?_ (Go.RowKit.Hid.out (by assumption)))))).facts
           obtain ⟨r0, r1, -, -, lr⟩ := (HP6.out.up (w' := w6) (by (repeat (first | exact Below.refl _ _ | exact Go.RowKit.Hid.out (by assumption) | refine Up.trans ?_ (Up.drew _) | refine Up.trans ?_ (Up.drewN _ _) | refine Up.trans ?_ (Up.alloc _ _) | refine Up.trans ?_ (Go.RowKit.Hid.out (by assumption)))))).facts
           obtain ⟨q0, q1, -, -, lq⟩ := (HQ6.out.up (w' := w6) (by (repeat (first | exact Below.refl _ _ | exact Go.RowKit.Hid.out (by assumption) | refine Up.trans ?_ (Up.drew _) | refine Up.trans ?_ (Up.drewN _ _) | refine Up.trans ?_ (Up.alloc _ _) | refine Up.trans ?_ (Go.RowKit.Hid.out (by assumption)))))).facts
           clear hu)
        | (go_at_call 17
           refine Calls.mono (HAW.out _ (by (repeat (first | exact Below.refl _ _ | exact Go.RowKit.Hid.out (by assumption) | refine Up.trans ?_ (Up.drew _) | refine Up.trans ?_ (Up.drewN _ _) | refine Up.trans ?_ (Up.alloc _ _) | refine Up.trans ?_ (Go.RowKit.Hid.out (by assumption)))))) ?_
           rintro e w6 ⟨rfl, hu⟩
           have HU6 := Lib.hid hu
           obtain ⟨p0, p1, -, -, lp⟩ := (HC6.out.up (w' := w6) (by (repeat (first | exact Below.refl _ _ | exact Go.RowKit.Hid.out (by assumption) | refine Up.trans ?_ (Up.drew _) | refine Up.trans ?_ (Up.drewN _ _) | refine Up.trans ?_ (Up.alloc _ _) | refine Up.trans ?_ (Go.RowKit.Hid.out (by assumption)))))).facts
           obtain ⟨a0, a1, -, -, la⟩ := (HA6.out.up (w' := w6) (by (repeat (first | exact Below.refl _ _ | exact Go.RowKit.Hid.out (by assumption) | refine Up.trans ?_ (Up.drew _) | refine Up.trans ?_ (Up.drewN _ _) | refine Up.trans ?_ (Up.alloc _ _) | refine Up.trans ?_ (Go.RowKit.Hid.out (by assumption)))))).facts
           obtain ⟨b0, b1, -, -, lb⟩ := (HB6.out.up (w' := w6) (by (repeat (first | exact Below.refl _ _ | exact Go.RowKit.Hid.out (by assumption) | refine Up.trans ?_ (Up.drew _) | refine Up.trans ?_ (Up.drewN _ _) | refine Up.trans ?_ (Up.alloc _ _) | refine Up.trans ?_ (Go.RowKit.Hid.out (by assumption)))))).facts
           obtain ⟨r0, r1, -, -, lr⟩ := (HP6.out.up (w' := w6) (by (repeat (first | exact Below.refl _ _ | exact Go.RowKit.Hid.out (by assumption) | refine Up.trans ?_ (Up.drew _) | refine Up.trans ?_ (Up.drewN _ _) | refine Up.trans ?_ (Up.alloc _ _) | refine Up.trans ?_ (Go.RowKit.Hid.out (by assumption)))))).facts
           obtain ⟨q0, q1, -, -, lq⟩ := (HQ6.out.up (w' := w6) (by (repeat (first | exact Below.refl _ _ | exact Go.RowKit.Hid.out (by assumption) | refine Up.trans ?_ (Up.drew _) | refine Up.trans ?_ (Up.drewN _ _) | refine Up.trans ?_ (Up.alloc _ _) | refine Up.trans ?_ (Go.RowKit.Hid.out (by assumption)))))).facts
           clear hu)))
    all_goals
      go_wp2
      go_ret
      exact ⟨rfl, by (repeat (first | exact Below.refl _ _ | exact Go.RowKit.Hid.out (by assumption) | refine Up.trans ?_ (Up.drew _) | refine Up.trans ?_ (Up.drewN _ _) | refine Up.trans ?_ (Up.alloc _ _) | refine Up.trans ?_ (Go.RowKit.Hid.out (by assumption))))⟩
  · have i0 : (40 : Int) < (xs.length : Int) := by omega
    clear h40
    go_wp2_with fail
    refine Calls.mono (HAW.out _ (by (repeat (first | exact Below.refl _ _ | exact Go.RowKit.Hid.out (by assumption) | refine Up.trans ?_ (Up.drew _) | refine Up.trans ?_ (Up.drewN _ _) | refine Up.trans ?_ (Up.alloc _ _) | refine Up.trans ?_ (Go.RowKit.Hid.out (by assumption)))))) ?_
    rintro e w2 ⟨rfl, hu⟩
    go_wp2
    go_ret
    exact ⟨rfl, HU1.out.trans hu⟩
end Go.Proofs.YtgcmogldiahdpaaGreatDoor

/- Contracts of the reference's elimination: the divided row, the lead, a row that is clear already. -/
import Derived.Test.YtacbjbnocepnaaaGreatDoorQHS
import Derived.Test.YtacbjbnocepnaaaGreatDoorQHJ
namespace Go.Proofs.YtacbjbnocepnaaaGreatDoor
open Go.RowKit Fm
set_option maxHeartbeats 1000000 in
set_option maxRecDepth 10000 in
theorem refPrimed_big (A A2 : Option Addr) (c c2 n2 : Nat) (s : Int) (b : Bool) (zs : List Int) (x : Int) (w : World) (d : Nat) (hd : d ≠ 0) (hn : zs.length ≤ 1000000) (hbz : ∀ z, z ∈ zs → rl z ≤ 536870912) (hbx : rl x ≤ 536870912) (hr : RdE eltR w A zs) (hx : RI w (.agg #[.int .i64 s, .bool b, .slice A2 n2 c2]) x)
    (HDV : Hid (∀ W, Up w W → Calls Tryz.prog 94 #[.agg #[.slice A zs.length c, .int .i64 s, .bool b, .slice A2 n2 c2]] W fun e w' => ∃ v, e = .returned v ∧ RI w' v (d : Int) ∧ Up W w')) :
    Calls Tryz.prog 97 #[.agg #[.slice A zs.length c, .int .i64 s, .bool b, .slice A2 n2 c2]] w fun e w' => ∃ v, e = .returned v ∧ RowQ w w' v (zs.map (·.tdiv (d : Int))) (x.tdiv (d : Int)) ∧ Up w w' := by
  have HSG := Lib.hid (fun W v (h : RI W v (d : Int)) => refSign_any v (d : Int) W h)
  have hd0 : (d : Int) ≠ 0 := by omega
  have HOV := Lib.hid (fun W u v z (hz : rl z ≤ 536870912) (h : RI W u z) (h2 : RI W v (d : Int)) => refOver_any u v z d W h h2 hd0 hz)
  have HAW0 : zs ≠ [] → ∃ b off, A = some ⟨b, off, none⟩ ∧ b < w.heap.size := fun h => by
    obtain ⟨b, off, e, hb, -⟩ := hr h
    exact ⟨b, off, e, hb⟩
  go_enter Tryz.func97, Tryz.ntmps97
  have hq0 := CellQ.new w (.slice A zs.length c) (.slice A2 n2 c2) s b
  have HQ0 := Lib.hid (hq0.up (Up.alloc _ (.cells #[.slice none 0 0, .int .i64 0, .bool false, .slice none 0 0] 59)))
  have HR0 := Lib.hid (CellQ.new (w.alloc (.cells #[.slice A zs.length c, .int .i64 s, .bool b, .slice A2 n2 c2] 59)) (.slice none 0 0) (.slice none 0 0) 0 false)
  have HUW := Lib.hid ((Up.alloc w (.cells #[.slice A zs.length c, .int .i64 s, .bool b, .slice A2 n2 c2] 59)).trans (Up.alloc _ (.cells #[.slice none 0 0, .int .i64 0, .bool false, .slice none 0 0] 59)))
  rw [size_alloc] at HR0
  obtain ⟨q0, q1, q2, q3, -, lq⟩ := hq0.facts
  go_wp2_with fail
  clear hq0 q0 q1 q2 q3 lq
  generalize (w.alloc (.cells #[.slice A zs.length c, .int .i64 s, .bool b, .slice A2 n2 c2] 59)).alloc (.cells #[.slice none 0 0, .int .i64 0, .bool false, .slice none 0 0] 59) = wB at *
  obtain ⟨g0, hg0⟩ : ∃ g0, g0 = w.heap.size := ⟨_, rfl⟩
  obtain ⟨g1, hg1⟩ : ∃ g1, g1 = w.heap.size + 1 := ⟨_, rfl⟩
  have HG1 := Lib.hid (show w.heap.size ≤ g1 by omega)
  have HAW := Lib.hid (show zs ≠ [] → Away A g1 from fun h b off e e2 => by
    obtain ⟨b', off', e', hb⟩ := HAW0 h
    rw [e] at e'
    cases e'
    omega)
  clear HAW0
  rw [← hg0] at HQ0
  rw [← hg1] at HR0
  rw [← hg1, ← hg0]
  clear hg0 hg1
  refine Calls.mono (HDV.out _ HUW.out) ?_
  rintro e w1 ⟨v1, rfl, hv, hu⟩
  obtain ⟨s1, b1, A1, n1, c1, rfl, -⟩ := hv.open_
  have HU1 := Lib.hid hu
  have HV1 := Lib.hid hv
  clear hu hv
  go_wp2_with fail
  have HUY := Lib.hid (Up.alloc w1 (.cells #[.int .i64 s1, .bool b1, .slice A1 n1 c1] 48))
  refine Calls.mono (HSG.out _ _ (HV1.out.up HUY.out)) ?_
  rintro e w2 ⟨rfl, hu⟩
  have HU2 := Lib.hid hu
  clear hu
  rw [Int.sign_eq_one_of_pos (by omega : (0 : Int) < (d : Int))]
  have HUX := Lib.hid (HUW.out.trans (HU1.out.trans (HUY.out.trans HU2.out)))
  have HRE := Lib.hid (hr.up HUX.out)
  have HX2 := Lib.hid (hx.up HUX.out)
  have HQF := Lib.hid (HR0.out.up (HU1.out.trans (HUY.out.trans HU2.out)))
  have HCI := Lib.hid ((CellI.new w1 s1 b1 (.slice A1 n1 c1)).up HU2.out)
  have HVI := Lib.hid (HV1.out.up (HUY.out.trans HU2.out))
  have HQ2 := Lib.hid (HQ0.out.up (HU1.out.trans (HUY.out.trans HU2.out)))
  obtain ⟨g3, hg3⟩ : ∃ g3, g3 = w1.heap.size := ⟨_, rfl⟩
  rw [← hg3] at HCI ⊢
  obtain ⟨q0, q1, q2, q3, -, lq⟩ := HQ2.out.facts
  obtain ⟨i0, i1, i2, li⟩ := HCI.out.facts
  clear hr hx HSG HDV HUY HU1 HUW HR0 HQ0 HV1 hg3 HU2
  go_wp2_with fail
  have HUO := Lib.hid (Up.alloc w2 (.cells #[.slice none 0 0, .int .i64 0, .bool false, .slice none 0 0] 59))
  have HO0 := Lib.hid (CellQ.new w2 (.slice none 0 0) (.slice none 0 0) 0 false)
  obtain ⟨wO, hwO⟩ : ∃ wO, wO = w2.alloc (.cells #[.slice none 0 0, .int .i64 0, .bool false, .slice none 0 0] 59) := ⟨_, rfl⟩
  obtain ⟨g4, hg4⟩ : ∃ g4, g4 = w2.heap.size := ⟨_, rfl⟩
  rw [← hwO] at HUO HO0 ⊢
  rw [← hg4] at HO0 ⊢
  have HG4 := Lib.hid (show w2.heap.size ≤ g4 by omega)
  have HN14 := Lib.hid (show g1 ≠ g4 by have := HQF.out.lt; omega)
  have HN34 := Lib.hid (show g3 ≠ g4 by have := HCI.out.lt; omega)
  have HN04 := Lib.hid (show g0 ≠ g4 by have := HQ2.out.lt; omega)
  clear hwO hg4 q0 q1 q2 q3 lq i0 i1 i2 li
  refine Calls.mono (HOV.out _ _ _ _ hbx (HX2.out.up HUO.out) (HVI.out.up HUO.out)) ?_
  rintro e w3 ⟨v3, r3, rfl, hv, hr3, hu⟩
  obtain ⟨s3, b3, A3, n3, c3, rfl, -⟩ := hv.open_
  obtain ⟨s4, b4, A4, n4, c4, rfl, -⟩ := hr3.open_
  have HU3 := Lib.hid hu
  have HV3 := Lib.hid hv
  have HO3 := Lib.hid (HO0.out.up hu)
  clear hu hv hr3
  obtain ⟨o0, o1, o2, o3, -, lo⟩ := HO3.out.facts
  obtain ⟨y0, y1, y2, y3⟩ := HO3.out.frz
  obtain ⟨q0, q1, q2, q3, -, lq⟩ := (HQ2.out.up (HUO.out.trans HU3.out)).facts
  go_wp2_with fail
  have HUA := Lib.hid (show Up w2 (((w3.setCell ⟨g4, 1, none⟩ (.int .i64 s3)).setCell ⟨g4, 2, none⟩ (.bool b3)).setCell ⟨g4, 3, none⟩ (.slice A3 n3 c3)) from ((Below.setCell (p := ⟨g4, 1, none⟩) (HUO.out.trans HU3.out) HG4.out (.int .i64 s3)).setCell (p := ⟨g4, 2, none⟩) HG4.out (.bool b3)).setCell (p := ⟨g4, 3, none⟩) HG4.out (.slice A3 n3 c3))
  have HVA := Lib.hid ((((HV3.out.ria.put HO3.out (fun x e => by cases e) 1 (.int .i64 s3)).put (HO3.out.set1 s3) (fun x e => by cases e) 2 (.bool b3)).put ((HO3.out.set1 s3).set2 b3) (fun x e => by cases e) 3 (.slice A3 n3 c3)).ri)
  have HQA := Lib.hid (((HO3.out.set1 s3).set2 b3).set3 (.slice A3 n3 c3))
  generalize ((w3.setCell ⟨g4, 1, none⟩ (.int .i64 s3)).setCell ⟨g4, 2, none⟩ (.bool b3)).setCell ⟨g4, 3, none⟩ (.slice A3 n3 c3) = wA at *
  clear o0 o1 o2 o3 lo y0 y1 y2 y3 q0 q1 q2 q3 lq HO0 HO3 HUO HU3
  go_loopw [27] (fun i wr => ∃ k : Nat, k ≤ zs.length ∧ i = .int .i64 k ∧ ∃ wB A5 c5, Hid (RI wB (.agg #[.int .i64 s3, .bool b3, .slice A3 n3 c3]) (x.tdiv (d : Int))) ∧ Hid (CellQ wB g4 (.slice A5 k c5) s3 b3 (.slice A3 n3 c3)) ∧ Hid (Up w2 wB) ∧ Hid (OwP eltR okR wB wr 48 (.slice A5 k c5) ((zs.take k).map (·.tdiv (d : Int)))) ∧ Hid (Up wB wr)) (fun i _ => zs.length - (intOf i).toNat)
  case atStart => exact ⟨0, by omega, rfl, wA, none, 0, HVA, HQA, HUA, Lib.hid (OwP.nil _ _ _ _ _), Lib.hid (Up.refl _)⟩
  case round =>
    obtain ⟨k, hk, rfl, wB, A5, c5, HVB, HQ, HUB, HOW, HU⟩ := hrel
    by_cases hkl : k < zs.length
    · obtain ⟨b9, off, cs, rfl, hbb, ⟨t1, d1, D1, m1, j1, rfl, hz⟩, hcell⟩ := (HRE.out.up (HUB.out.trans HU.out)).at_ hkl
      have hsm := hbz zs[k] (List.getElem_mem hkl)
      have HRI := Lib.hid hz.ri
      have e0 := hcell 0 _ rfl
      have e1 := hcell 1 _ rfl
      have e2 := hcell 2 _ rfl
      have HNEXT : Hid ((zs.take (k + 1)).map (·.tdiv (d : Int)) = (zs.take k).map (·.tdiv (d : Int)) ++ [zs[k].tdiv (d : Int)]) := Lib.hid (by rw [List.take_succ_eq_append_getElem hkl, List.map_append]; rfl)
      have HLEN : Hid (((zs.take k).map (·.tdiv (d : Int))).length ≤ 1000000000) := Lib.hid (by rw [List.length_map, List.length_take]; omega)
      have HLK : Hid (((zs.take k).map (·.tdiv (d : Int)) ++ [zs[k].tdiv (d : Int)]).length = k + 1) := Lib.hid (by rw [List.length_append, List.length_map, List.length_take]; simp; omega)
      clear hcell hz
      simp only [eltR, Nat.add_zero] at e0 e1 e2
      have HOZ := Lib.hid (fun W u v (h : RI W u zs[k]) (h2 : RI W v (d : Int)) => HOV.out W u v zs[k] hsm h h2)
      generalize zs[k] = z at *
      clear hsm
      obtain ⟨i0, i1, i2, li⟩ := (HCI.out.up (HUB.out.trans HU.out)).facts
      go_wp2_with fail
      have HUY := Lib.hid (Up.alloc wr (.cells #[.int .i64 t1, .bool d1, .slice D1 m1 j1] 48))
      refine Calls.mono (HOZ.out _ _ _ (HRI.out.up HUY.out) (HVI.out.up ((HUB.out.trans HU.out).trans HUY.out))) ?_
      rintro e w5 ⟨v5, r5, rfl, hv, hr5, hu⟩
      obtain ⟨s5, b5, A6, n5, c6, rfl, -⟩ := hv.open_
      obtain ⟨s6, b6, A7, n6, c7, rfl, -⟩ := hr5.open_
      have HU5 := Lib.hid hu
      have HV5 := Lib.hid hv
      clear hu hv hr5 e0 e1 e2 hbb i0 i1 i2 li
      obtain ⟨q0, q1, q2, q3, fz, lq⟩ := (HQ.out.up (HU.out.trans (HUY.out.trans HU5.out))).facts
      have HU8 := Lib.hid (((Up.alloc w5 (.cells #[.int .i64 s5, .bool b5, .slice A6 n5 c6] 48)).trans (Up.alloc _ (.cells #[.int .i64 s6, .bool b6, .slice A7 n6 c7] 48))).trans (Up.alloc _ (.cells #[.int .i64 s5, .bool b5, .slice A6 n5 c6] 48)))
      have HU9 := Lib.hid ((HUY.out.trans HU5.out).trans HU8.out)
      have hcl := new_cells ((w5.alloc (.cells #[.int .i64 s5, .bool b5, .slice A6 n5 c6] 48)).alloc (.cells #[.int .i64 s6, .bool b6, .slice A7 n6 c7] 48)) [.int .i64 s5, .bool b5, .slice A6 n5 c6] 48
      rw [size_alloc, size_alloc] at hcl
      have HCL := Lib.hid hcl
      clear hcl
      go_upto_region 10 with fail
      obtain ⟨wZ, hwZ⟩ : ∃ wZ, wZ = (w5.alloc (.cells #[.int .i64 s5, .bool b5, .slice A6 n5 c6] 48)).alloc (.cells #[.int .i64 s6, .bool b6, .slice A7 n6 c7] 48) := ⟨_, rfl⟩
      have HUZ := Lib.hid (show Up w5 wZ by rw [hwZ]; exact (Up.alloc _ _).trans (Up.alloc _ _))
      have HCZ := Lib.hid (show CellI wZ w5.heap.size s5 b5 (.slice A6 n5 c6) by rw [hwZ]; exact (CellI.new _ _ _ _).up (Up.alloc _ _))
      rw [← hwZ]
      clear hwZ HU8 HU9 HCL q0 q1 q2 q3 fz lq
      have HU9 := Lib.hid ((HUY.out.trans HU5.out).trans HUZ.out)
      obtain ⟨q0, q1, q2, q3, fz, lq⟩ := (HQ.out.up (HU.out.trans HU9.out)).facts
      obtain ⟨m0, m1, m2, lm⟩ := HCZ.out.facts
      have HPP := Lib.hid (HOW.out.up (HU9.out.trans (Up.alloc wZ (.cells #[.int .i64 s5, .bool b5, .slice A6 n5 c6] 48))))
      have HEL := Lib.hid ((HV5.out.up (HUZ.out.trans (Up.alloc wZ (.cells #[.int .i64 s5, .bool b5, .slice A6 n5 c6] 48)))).eltP HPP.out.2)
      go_wp2_with (at_builtin; refine wpList_pushP eltR okR wB rfl (.tmp 38) (.tmp 40) 57 48 rfl _ 40 Tryz.underlying57 info_ri rfl zri_nod okR_zero (by decide) _ ((zs.take k).map (fun z : Int => z.tdiv (d : Int))) rfl HPP.out (HU.out.trans (HU9.out.trans (Up.alloc _ _))) ⟨wZ.heap.size, 0, none⟩ rfl [.int .i64 s5, .bool b5, .slice A6 n5 c6] (z.tdiv (d : Int)) (new_cells wZ [.int .i64 s5, .bool b5, .slice A6 n5 c6] _) HEL.out okR_elt HLEN.out ?_; intro v' w' hown' hup'; have HOW' := Lib.hid hown'; have HU' := Lib.hid hup'; obtain ⟨A8, c8, e8, -⟩ := hown'.1.read eltR_none; rw [HLK.out] at e8; subst e8; clear hown' hup' q0 q1 q2 q3 fz lq; obtain ⟨q0, q1, q2, q3, fz, lq⟩ := (HQ.out.up HU'.out).facts)
      exact ⟨⟨k + 1, by omega, by simp, wB.setCell ⟨g4, 0, none⟩ (.slice A8 (k + 1) c8), A8, c8, Lib.hid ((HVB.out.ria.put HQ.out (fun x e => by cases e) 0 (.slice A8 (k + 1) c8)).ri), Lib.hid (HQ.out.set _), Lib.hid (Below.setCell (p := ⟨g4, 0, none⟩) HUB.out HG4.out _), Lib.hid (((by rw [HNEXT.out]; exact HOW'.out : OwP eltR okR wB w' 48 (.slice A8 (k + 1) c8) ((zs.take (k + 1)).map (·.tdiv (d : Int)))).putQ (HQ.out.up HU'.out) (fun x e => by cases e) 0 _).base (setCell_size _ _ _)), Lib.hid (HU'.out.both g4 0 _)⟩, by simp [intOf]; omega⟩
    · have hke : k = zs.length := by omega
      subst hke
      rw [List.take_length] at HOW
      have HQG := Lib.hid (HQF.out.up (HUB.out.trans HU.out))
      obtain ⟨r0, r1, r2, r3, -, lr⟩ := HQG.out.facts
      obtain ⟨f0, f1, f2, f3⟩ := HQG.out.frz
      obtain ⟨q0, q1, q2, q3, -, lq⟩ := (HQ.out.up HU.out).facts
      have HFF := Lib.hid ((HQG.out.put (.slice A5 zs.length c5) s3 b3 (.slice A3 n3 c3)).facts)
      have HLO := Lib.hid (HOW.out.1.putRow HQG.out (fun x e => by cases e) (.slice A5 zs.length c5) (fun x e => by cases e) s3 b3 (.slice A3 n3 c3))
      have HXO := Lib.hid (((HVB.out.up HU.out).ria).putRow HQG.out (fun x e => by cases e) (.slice A5 zs.length c5) (fun x e => by cases e) s3 b3 (.slice A3 n3 c3))
      have HSZ := Lib.hid ((HUX.out.trans HUB.out).size)
      have HUF := Lib.hid (((HUX.out.trans HUB.out).trans HU.out).putQ HG1.out (.slice A5 zs.length c5) s3 b3 (.slice A3 n3 c3))
      have HLL : Hid ((zs.map (·.tdiv (d : Int))).length = zs.length) := Lib.hid (by rw [List.length_map])
      go_wp2
      obtain ⟨z0, z1, z2, z3, -, -⟩ := HFF.out
      simp only [rowSet] at z0 z1 z2 z3
      refine bodyPost_ret (by simp [results, Tryz.results97, go_sem, z0, z1, z2, z3]; try rfl) rfl ?_
      obtain ⟨A9, c9, e9, l1, l2, l3, l4⟩ := HLO.out.read eltR_none
      rw [HLL.out] at e9 l1
      cases e9
      exact ⟨_, rfl, ⟨A5, c5, s3, b3, A3, n3, c3, by rw [HLL.out], by rw [HLL.out]; exact l1, l2, l3, HXO.out.ri, fun b off e => Nat.le_trans HSZ.out (l4 b off e)⟩, HUF.out⟩
end Go.Proofs.YtacbjbnocepnaaaGreatDoor
namespace Go.Proofs.YtacbjbnocepnaaaGreatDoor
open Go.RowKit Fm
set_option maxHeartbeats 1000000 in
set_option maxRecDepth 10000 in
theorem refLead_any (A A2 : Option Addr) (c c2 n2 v : Nat) (s : Int) (b : Bool) (zs : List Int) (w : World) (hn : zs.length ≤ 1000000) (hr : RdE eltR w A zs) (hv : v < zs.length) (h0 : ∀ i, i < v → zs.getD i 0 = 0) (h1 : zs.getD v 0 ≠ 0) :
    Calls Tryz.prog 104 #[.agg #[.slice A zs.length c, .int .i64 s, .bool b, .slice A2 n2 c2]] w fun e w' => e = .returned (.int .i64 v) ∧ Up w w' := by
  have HSG := Lib.hid (fun W u z (h : RI W u z) => refSign_any u z W h)
  have H0 := Lib.hid (And.intro h0 h1)
  go_enter Tryz.func104, Tryz.ntmps104
  have hq0 := CellQ.new w (.slice A zs.length c) (.slice A2 n2 c2) s b
  obtain ⟨q0, q1, q2, q3, -, lq⟩ := hq0.facts
  go_wp2_with fail
  have HU0 := Lib.hid (Up.alloc w (.cells #[.slice A zs.length c, .int .i64 s, .bool b, .slice A2 n2 c2] 59))
  generalize w.alloc (.cells #[.slice A zs.length c, .int .i64 s, .bool b, .slice A2 n2 c2] 59) = wA at *
  have HRE := Lib.hid (hr.up HU0.out)
  clear hq0 q0 q1 q2 q3 lq hr h0 h1
  go_loopw [8] (fun i wr => ∃ k : Nat, k ≤ v ∧ i = .int .i64 k ∧ Hid (Up wA wr)) (fun i _ => zs.length - (intOf i).toNat)
  case atStart => exact ⟨0, by omega, rfl, Lib.hid (Up.refl _)⟩
  case round =>
    obtain ⟨k, hk, rfl, HU⟩ := hrel
    have hkl : k < zs.length := by omega
    obtain ⟨b9, off, cs, rfl, hbb, ⟨t1, d1, D1, m1, j1, rfl, hz⟩, hcell⟩ := (HRE.out.up HU.out).at_ hkl
    have HRI := Lib.hid hz.ri
    have e0 := hcell 0 _ rfl
    have e1 := hcell 1 _ rfl
    have e2 := hcell 2 _ rfl
    have hgd : zs.getD k 0 = zs[k] := by rw [List.getD_eq_getElem?_getD, List.getElem?_eq_getElem hkl]; rfl
    have HV := Lib.hid (show (k < v → zs[k] = 0) ∧ (k = v → zs[k] ≠ 0) from ⟨fun h => by rw [← hgd]; exact H0.out.1 k h, fun h => by rw [← hgd, h]; exact H0.out.2⟩)
    clear hcell hz hgd
    simp only [eltR, Nat.add_zero] at e0 e1 e2
    generalize zs[k] = z at *
    go_wp2_with fail
    have HUY := Lib.hid (Up.alloc wr (.cells #[.int .i64 t1, .bool d1, .slice D1 m1 j1] 48))
    refine Calls.mono (HSG.out _ _ _ (HRI.out.up HUY.out)) ?_
    rintro e w5 ⟨rfl, hu⟩
    have HU5 := Lib.hid (HUY.out.trans hu)
    clear hu e0 e1 e2 hbb
    by_cases hkv : k < v
    · have hz0 : z.sign = 0 := by rw [HV.out.1 hkv]; rfl
      rw [hz0]
      clear hz0
      go_wp2_with fail
      exact ⟨⟨k + 1, by omega, by simp, Lib.hid (HU.out.trans HU5.out)⟩, by simp [intOf]; omega⟩
    · have hke : k = v := by omega
      have hz0 : (z.sign != 0) = true := by
        have := HV.out.2 hke
        simp only [bne_iff_ne, ne_eq]
        intro h
        exact this (Int.sign_eq_zero_iff_zero.1 h)
      subst hke
      go_wp2
      go_ret
      exact ⟨rfl, HU0.out.trans (HU.out.trans HU5.out)⟩
end Go.Proofs.YtacbjbnocepnaaaGreatDoor
namespace Go.Proofs.YtacbjbnocepnaaaGreatDoor
open Go.RowKit Fm
set_option maxHeartbeats 1000000 in
set_option maxRecDepth 10000 in
theorem refPrimed_same (A A2 : Option Addr) (c c2 n2 : Nat) (s : Int) (b : Bool) (zs : List Int) (x : Int) (w : World) (hr : RdE eltR w A zs) (hx : RI w (.agg #[.int .i64 s, .bool b, .slice A2 n2 c2]) x)
    (HDV : Hid (∀ W, Up w W → Calls Tryz.prog 94 #[.agg #[.slice A zs.length c, .int .i64 s, .bool b, .slice A2 n2 c2]] W fun e w' => ∃ v, e = .returned v ∧ RI w' v 0 ∧ Up W w')) :
    Calls Tryz.prog 97 #[.agg #[.slice A zs.length c, .int .i64 s, .bool b, .slice A2 n2 c2]] w fun e w' => e = .returned (.agg #[.slice A zs.length c, .int .i64 s, .bool b, .slice A2 n2 c2]) ∧ (RdE eltR w' A zs ∧ RI w' (.agg #[.int .i64 s, .bool b, .slice A2 n2 c2]) x) ∧ Up w w' := by
  have HSG := Lib.hid (fun W v (h : RI W v 0) => refSign_any v 0 W h)
  have HAW0 : zs ≠ [] → ∃ b off, A = some ⟨b, off, none⟩ ∧ b < w.heap.size := fun h => by
    obtain ⟨b, off, e, hb, -⟩ := hr h
    exact ⟨b, off, e, hb⟩
  go_enter Tryz.func97, Tryz.ntmps97
  have hq0 := CellQ.new w (.slice A zs.length c) (.slice A2 n2 c2) s b
  have HQ0 := Lib.hid (hq0.up (Up.alloc _ (.cells #[.slice none 0 0, .int .i64 0, .bool false, .slice none 0 0] 59)))
  have HR0 := Lib.hid (CellQ.new (w.alloc (.cells #[.slice A zs.length c, .int .i64 s, .bool b, .slice A2 n2 c2] 59)) (.slice none 0 0) (.slice none 0 0) 0 false)
  have HUW := Lib.hid ((Up.alloc w (.cells #[.slice A zs.length c, .int .i64 s, .bool b, .slice A2 n2 c2] 59)).trans (Up.alloc _ (.cells #[.slice none 0 0, .int .i64 0, .bool false, .slice none 0 0] 59)))
  rw [size_alloc] at HR0
  obtain ⟨q0, q1, q2, q3, -, lq⟩ := hq0.facts
  go_wp2_with fail
  clear hq0 q0 q1 q2 q3 lq
  generalize (w.alloc (.cells #[.slice A zs.length c, .int .i64 s, .bool b, .slice A2 n2 c2] 59)).alloc (.cells #[.slice none 0 0, .int .i64 0, .bool false, .slice none 0 0] 59) = wB at *
  obtain ⟨g0, hg0⟩ : ∃ g0, g0 = w.heap.size := ⟨_, rfl⟩
  obtain ⟨g1, hg1⟩ : ∃ g1, g1 = w.heap.size + 1 := ⟨_, rfl⟩
  have HG1 := Lib.hid (show w.heap.size ≤ g1 by omega)
  have HAW := Lib.hid (show zs ≠ [] → Away A g1 from fun h b off e e2 => by
    obtain ⟨b', off', e', hb⟩ := HAW0 h
    rw [e] at e'
    cases e'
    omega)
  clear HAW0
  rw [← hg0] at HQ0
  rw [← hg1] at HR0
  rw [← hg1, ← hg0]
  clear hg0 hg1
  refine Calls.mono (HDV.out _ HUW.out) ?_
  rintro e w1 ⟨v1, rfl, hv, hu⟩
  obtain ⟨s1, b1, A1, n1, c1, rfl, -⟩ := hv.open_
  have HU1 := Lib.hid hu
  have HV1 := Lib.hid hv
  clear hu hv
  go_wp2_with fail
  have HUY := Lib.hid (Up.alloc w1 (.cells #[.int .i64 s1, .bool b1, .slice A1 n1 c1] 48))
  refine Calls.mono (HSG.out _ _ (HV1.out.up HUY.out)) ?_
  rintro e w2 ⟨rfl, hu⟩
  have HU2 := Lib.hid hu
  clear hu
  rw [Int.sign_zero]
  have HUX := Lib.hid (HUW.out.trans (HU1.out.trans (HUY.out.trans HU2.out)))
  have HQF := Lib.hid (HR0.out.up (HU1.out.trans (HUY.out.trans HU2.out)))
  obtain ⟨q0, q1, q2, q3, -, lq⟩ := (HQ0.out.up (HU1.out.trans (HUY.out.trans HU2.out))).facts
  obtain ⟨r0, r1, r2, r3, -, lr⟩ := HQF.out.facts
  obtain ⟨f0, f1, f2, f3⟩ := HQF.out.frz
  have HFF := Lib.hid ((HQF.out.put (.slice A zs.length c) s b (.slice A2 n2 c2)).facts)
  have HLO := Lib.hid ((hr.up HUX.out).putRow HQF.out (fun x e => by cases e) HAW.out (.slice A zs.length c) (fun x e => by cases e) s b (.slice A2 n2 c2))
  have HRO := Lib.hid (((hx.up HUX.out).ria).putRow HQF.out (fun x e => by cases e) (.slice A zs.length c) (fun x e => by cases e) s b (.slice A2 n2 c2))
  have HUF := Lib.hid (HUX.out.putQ HG1.out (.slice A zs.length c) s b (.slice A2 n2 c2))
  clear hr hx HSG HDV
  go_wp2
  obtain ⟨z0, z1, z2, z3, -, -⟩ := HFF.out
  simp only [rowSet] at z0 z1 z2 z3
  refine bodyPost_ret (by simp [results, Tryz.results97, go_sem, z0, z1, z2, z3]; try rfl) rfl ?_
  exact ⟨rfl, ⟨HLO.out, HRO.out.ri⟩, HUF.out⟩
set_option maxRecDepth 10000 in
theorem refPrimedF (A A2 : Option Addr) (c c2 n2 : Nat) (s : Int) (b : Bool) (f : List Int × Int) (w : World) (hn : f.1.length ≤ 1000000) (hr : RdE eltR w A f.1) (hx : RI w (.agg #[.int .i64 s, .bool b, .slice A2 n2 c2]) f.2) (hbz : ∀ z, z ∈ f.1 → rl z ≤ 536870912) (hbx : rl f.2 ≤ 536870912) :
    Calls Tryz.prog 97 #[.agg #[.slice A f.1.length c, .int .i64 s, .bool b, .slice A2 n2 c2]] w fun e w' => ∃ v, e = .returned v ∧ ((v = .agg #[.slice A f.1.length c, .int .i64 s, .bool b, .slice A2 n2 c2] ∧ primF f = f ∧ RdE eltR w' A f.1 ∧ RI w' (.agg #[.int .i64 s, .bool b, .slice A2 n2 c2]) f.2) ∨ RowQ w w' v (primF f).1 (primF f).2) ∧ Up w w' := by
  have HDV := Lib.hid (fun W (hu : Up w W) => refDivisor_any A A2 c c2 n2 s b f.1 f.2 W hn (hr.up hu) (hx.up hu) hbz hbx)
  rw [primF_eq]
  by_cases hd : gcdR f.2.natAbs f.1 = 0
  · rw [if_pos hd]
    rw [hd] at HDV
    refine Calls.mono (refPrimed_same A A2 c c2 n2 s b f.1 f.2 w hr hx HDV) ?_
    rintro e w' ⟨rfl, ⟨h1, h2⟩, hu⟩
    exact ⟨_, rfl, .inl ⟨rfl, rfl, h1, h2⟩, hu⟩
  · rw [if_neg hd]
    refine Calls.mono (refPrimed_big A A2 c c2 n2 s b f.1 f.2 w _ hd hn hbz hbx hr hx HDV) ?_
    rintro e w' ⟨v, rfl, h1, hu⟩
    exact ⟨v, rfl, .inr h1, hu⟩
end Go.Proofs.YtacbjbnocepnaaaGreatDoor
namespace Go.Proofs.YtacbjbnocepnaaaGreatDoor
open Go.RowKit Fm
set_option maxHeartbeats 4000000 in
set_option maxRecDepth 10000 in
theorem refClear_same (A A2 E E2 : Option Addr) (c c2 n2 f f2 m2 v : Nat) (s t : Int) (b d : Bool) (zs ys : List Int) (x : Int) (w : World) (hn : zs.length ≤ 1000) (hl : ys.length = zs.length) (hr : RdE eltR w A zs) (hx : RI w (.agg #[.int .i64 s, .bool b, .slice A2 n2 c2]) x) (hr2 : RdE eltR w E ys) 
    (hv : v < zs.length) (h0 : ∀ i, i < v → ys.getD i 0 = 0) (h1 : 0 < ys.getD v 0) (hz : zs.getD v 0 = 0) :
    Calls Tryz.prog 99 #[.agg #[.slice A zs.length c, .int .i64 s, .bool b, .slice A2 n2 c2], .agg #[.slice E ys.length f, .int .i64 t, .bool d, .slice E2 m2 f2]] w fun e w' => e = .returned (.agg #[.slice A zs.length c, .int .i64 s, .bool b, .slice A2 n2 c2]) ∧ (RdE eltR w' A zs ∧ RI w' (.agg #[.int .i64 s, .bool b, .slice A2 n2 c2]) x) ∧ Up w w' := by
  have HLD := Lib.hid (fun W (hu : Up w W) => refLead_any E E2 f f2 m2 v t d ys W (by omega) (hr2.up hu) (by omega) h0 (by omega))
  have HSG := Lib.hid (fun W u z (h : RI W u z) => refSign_any u z W h)
  have HZ := Lib.hid hz
  have HRA := Lib.hid (And.intro hr hx)
  rw [hl] at HLD ⊢
  clear hr hx hr2 h0 h1 hl hz
  go_enter Tryz.func99, Tryz.ntmps99
  have hq0 := CellQ.new w (.slice A zs.length c) (.slice A2 n2 c2) s b
  have hp0 := CellQ.new (w.alloc (.cells #[.slice A zs.length c, .int .i64 s, .bool b, .slice A2 n2 c2] 59)) (.slice E zs.length f) (.slice E2 m2 f2) t d
  have hr0 := CellQ.new ((w.alloc (.cells #[.slice A zs.length c, .int .i64 s, .bool b, .slice A2 n2 c2] 59)).alloc (.cells #[.slice E zs.length f, .int .i64 t, .bool d, .slice E2 m2 f2] 59)) (.slice none 0 0) (.slice none 0 0) 0 false
  rw [size_alloc] at hp0
  rw [size_alloc, size_alloc] at hr0
  have HU1 := Lib.hid (Up.alloc w (.cells #[.slice A zs.length c, .int .i64 s, .bool b, .slice A2 n2 c2] 59))
  have HU2 := Lib.hid (Up.alloc (w.alloc (.cells #[.slice A zs.length c, .int .i64 s, .bool b, .slice A2 n2 c2] 59)) (.cells #[.slice E zs.length f, .int .i64 t, .bool d, .slice E2 m2 f2] 59))
  have HU3 := Lib.hid (Up.alloc ((w.alloc (.cells #[.slice A zs.length c, .int .i64 s, .bool b, .slice A2 n2 c2] 59)).alloc (.cells #[.slice E zs.length f, .int .i64 t, .bool d, .slice E2 m2 f2] 59)) (.cells #[.slice none 0 0, .int .i64 0, .bool false, .slice none 0 0] 59))
  have HQ0 := Lib.hid (hq0.up (HU2.out.trans HU3.out))
  have HP0 := Lib.hid (hp0.up HU3.out)
  have HR0 := Lib.hid hr0
  have HUW := Lib.hid (HU1.out.trans (HU2.out.trans HU3.out))
  obtain ⟨q0, q1, q2, q3, -, lq⟩ := hq0.facts
  clear hq0 hp0 hr0
  go_wp2_with fail
  generalize ((w.alloc (.cells #[.slice A zs.length c, .int .i64 s, .bool b, .slice A2 n2 c2] 59)).alloc (.cells #[.slice E zs.length f, .int .i64 t, .bool d, .slice E2 m2 f2] 59)).alloc (.cells #[.slice none 0 0, .int .i64 0, .bool false, .slice none 0 0] 59) = wB at *
  obtain ⟨g0, hg0⟩ : ∃ g0, g0 = w.heap.size := ⟨_, rfl⟩
  obtain ⟨g1, hg1⟩ : ∃ g1, g1 = w.heap.size + 1 := ⟨_, rfl⟩
  obtain ⟨g2, hg2⟩ : ∃ g2, g2 = w.heap.size + 1 + 1 := ⟨_, rfl⟩
  have HG2 := Lib.hid (show w.heap.size ≤ g2 ∧ g0 ≠ g2 ∧ g1 ≠ g2 by omega)
  rw [← hg0] at HQ0
  rw [← hg1] at HP0
  rw [← hg2] at HR0
  rw [← hg2, ← hg1, ← hg0]
  clear hg0 hg1 hg2 q0 q1 q2 q3 lq HU1 HU2 HU3
  refine Calls.mono (HLD.out _ HUW.out) ?_
  rintro e w1 ⟨rfl, hu⟩
  have HUA := Lib.hid (HUW.out.trans hu)
  have HQ1 := Lib.hid (HQ0.out.up hu)
  have HP1 := Lib.hid (HP0.out.up hu)
  have HR1 := Lib.hid (HR0.out.up hu)
  clear hu HQ0 HP0 HR0 HUW HLD
  obtain ⟨b9, off, cs, rfl, hbb, ⟨t1, d1, D1, m1, j1, rfl, hzz⟩, hcell⟩ := (HRA.out.1.up HUA.out).at_ hv
  have e0 := hcell 0 _ rfl
  have e1 := hcell 1 _ rfl
  have e2 := hcell 2 _ rfl
  have hgd : zs.getD v 0 = zs[v] := by rw [List.getD_eq_getElem?_getD, List.getElem?_eq_getElem hv]; rfl
  have HZI := Lib.hid hzz.ri
  rw [← hgd] at HZI
  clear hcell hzz hgd
  simp only [eltR, Nat.add_zero] at e0 e1 e2
  obtain ⟨q0, q1, q2, q3, -, lq⟩ := HQ1.out.facts
  go_wp2_with fail
  refine Calls.mono (HSG.out _ _ _ HZI.out) ?_
  rintro e w2 ⟨rfl, hu⟩
  have HUB := Lib.hid (HUA.out.trans hu)
  have HQ2 := Lib.hid (HQ1.out.up hu)
  have HP2 := Lib.hid (HP1.out.up hu)
  have HR2 := Lib.hid (HR1.out.up hu)
  have HZ2 := Lib.hid (HZI.out.up hu)
  clear hu e0 e1 e2 hbb q0 q1 q2 q3 lq HQ1 HP1 HR1 HUA HZI
  rw [HZ.out, Int.sign_zero]
  obtain ⟨q0, q1, q2, q3, -, lq⟩ := HQ2.out.facts
  obtain ⟨r0, r1, r2, r3, -, lr⟩ := HR2.out.facts
  obtain ⟨f0, f1, f2', f3⟩ := HR2.out.frz
  have HFF := Lib.hid ((HR2.out.put (.slice (some ⟨b9, off, none⟩) zs.length c) s b (.slice A2 n2 c2)).facts)
  have HAW := Lib.hid (show zs ≠ [] → Away (some ⟨b9, off, none⟩) g2 from fun hne b' off' e e2 => by
    obtain ⟨b3, off3, e3, hb3, -⟩ := HRA.out.1 hne
    cases e
    cases e3
    have h2 := HG2.out.1
    omega)
  have HLO := Lib.hid ((HRA.out.1.up HUB.out).putRow HR2.out (fun x e => by cases e) HAW.out (.slice (some ⟨b9, off, none⟩) zs.length c) (fun x e => by cases e) s b (.slice A2 n2 c2))
  have HRO := Lib.hid (((HRA.out.2.up HUB.out).ria).putRow HR2.out (fun x e => by cases e) (.slice (some ⟨b9, off, none⟩) zs.length c) (fun x e => by cases e) s b (.slice A2 n2 c2))
  have HUF := Lib.hid (HUB.out.putQ HG2.out.1 (.slice (some ⟨b9, off, none⟩) zs.length c) s b (.slice A2 n2 c2))
  go_wp2
  obtain ⟨z0, z1, z2, z3, -, -⟩ := HFF.out
  simp only [rowSet] at z0 z1 z2 z3
  refine bodyPost_ret (by simp [results, Tryz.results99, go_sem, z0, z1, z2, z3]; try rfl) rfl ?_
  exact ⟨rfl, ⟨HLO.out, HRO.out.ri⟩, HUF.out⟩
end Go.Proofs.YtacbjbnocepnaaaGreatDoor

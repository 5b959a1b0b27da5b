/- Contracts of the package of rows, continued. -/
import Derived.Test.YtacbjbnocepnaaaGreatDoorQHB
import Derived.Deep.RegionWith
namespace Go.Proofs.YtacbjbnocepnaaaGreatDoor
open Go.RowKit Fm
theorem timesR_length (x : Int) (r : List Int) : (timesR x r).length = r.length := by simp [timesR]
def fillR (r : List Int) (k : Nat) : List Int := r.take k ++ List.replicate (r.length - k) 0
theorem fillR_zero (r : List Int) : fillR r 0 = List.replicate r.length 0 := by simp [fillR]
theorem fillR_all (r : List Int) : fillR r r.length = r := by simp [fillR]
theorem fillR_length (r : List Int) (k : Nat) (hk : k ≤ r.length) : (fillR r k).length = r.length := by simp [fillR]; omega
theorem fillR_next (r : List Int) (k : Nat) (hk : k < r.length) : (fillR r k).set k r[k] = fillR r (k + 1) := by
  apply List.ext_getElem
  · rw [List.length_set, fillR_length r k (by omega), fillR_length r (k + 1) (by omega)]
  · intro i h1 h2
    have hi : i < r.length := by rw [List.length_set, fillR_length r k (by omega)] at h1; exact h1
    have key : ∀ m (hm : m ≤ r.length) (h : i < (fillR r m).length), (fillR r m)[i] = if i < m then r[i] else 0 := by
      intro m hm h
      simp only [fillR, List.getElem_append, List.length_take, List.getElem_take, List.getElem_replicate]
      by_cases h3 : i < m
      · rw [if_pos h3, dif_pos (by omega)]
      · rw [if_neg h3, dif_neg (by omega)]
    rw [List.getElem_set]
    split
    · rename_i e; subst e
      rw [key (k + 1) (by omega), if_pos (by omega)]
    · rename_i e
      rw [key k (by omega) (by rw [fillR_length r k (by omega)]; exact hi), key (k + 1) (by omega)]
      by_cases h3 : i < k
      · rw [if_pos h3, if_pos (by omega)]
      · rw [if_neg h3, if_neg (by omega)]
def CellZ (w : World) (g : Nat) (s : Int) (B : Option Addr) (m k : Nat) : Prop := w.heap[g]? = some (.cells #[.int .i64 s, .slice B m k] 108 (0, 0))
theorem CellZ.new (w : World) (s : Int) (B : Option Addr) (m k : Nat) : CellZ (w.alloc (.cells #[.int .i64 s, .slice B m k] 108)) w.heap.size s B m k := heap_alloc_new w _
theorem CellZ.lt {w : World} {g : Nat} {s : Int} {B : Option Addr} {m k : Nat} (h : CellZ w g s B m k) : g < w.heap.size := by
  rcases Nat.lt_or_ge g w.heap.size with h1 | h1
  · exact h1
  · unfold CellZ at h; rw [Array.getElem?_eq_none h1] at h; cases h
theorem CellZ.up {w w' : World} {g : Nat} {s : Int} {B : Option Addr} {m k : Nat} (h : CellZ w g s B m k) (hu : Up w w') : CellZ w' g s B m k := (hu.block g h.lt).trans h
theorem CellZ.facts {w : World} {g : Nat} {s : Int} {B : Option Addr} {m k : Nat} (h : CellZ w g s B m k) : w.cell? ⟨g, 0, none⟩ = some (.int .i64 s) ∧ w.cell? ⟨g, 1, none⟩ = some (.slice B m k) ∧ w.frozen? ⟨g, 0, none⟩ = false ∧ w.frozen? ⟨g, 1, none⟩ = false ∧ g < w.heap.size :=
  ⟨by rw [cell_of_row w g 0 _ _ _ h]; rfl, by rw [cell_of_row w g 1 _ _ _ h]; rfl, by unfold CellZ at h; simp [World.frozen?, h], by unfold CellZ at h; simp [World.frozen?, h], h.lt⟩
theorem CellZ.far {w : World} {g g' : Nat} {s : Int} {B : Option Addr} {m k : Nat} (h : CellZ w g s B m k) (hne : g ≠ g') (o1 o2 : Nat) (u v : Value) : CellZ ((w.setCell ⟨g', o1, none⟩ u).setCell ⟨g', o2, none⟩ v) g s B m k :=
  (Below.heap_setCell _ ⟨g', o2, none⟩ v g hne).trans ((Below.heap_setCell w ⟨g', o1, none⟩ u g hne).trans h)
theorem two_cells {w w' : World} (hu : Up w w') {b o1 o2 : Nat} {v1 v2 : Value} (hb : b < w.heap.size) (h1 : w.cell? ⟨b, o1, none⟩ = some v1) (h2 : w.cell? ⟨b, o2, none⟩ = some v2) : w'.cell? ⟨b, o1, none⟩ = some v1 ∧ w'.cell? ⟨b, o2, none⟩ = some v2 :=
  ⟨(hu.cells.1 _ _ hb).trans h1, (hu.cells.1 _ _ hb).trans h2⟩
theorem size_alloc (w : World) (o : Obj) : (w.alloc o).heap.size = w.heap.size + 1 := by
  show (w.heap.push o).size = _
  simp
set_option maxHeartbeats 1000000 in
set_option maxRecDepth 10000 in
theorem rowTimes_any (A : Option Addr) (c : Nat) (zs : List Int) (u : Value) (x : Int) (w : World) (hc : zs.length ≤ c) (hcm : c ≤ maxLen) (hn : zs.length ≤ 1000000) (hr : RdZ w A zs) (hx : IV w u x) (hb : Bd 67108864 zs) (hbx : bl x ≤ 67108864) :
    Calls Tryz.prog 158 #[.slice A zs.length c, u] w fun e w' => ∃ v, e = .returned v ∧ RowF w w' v (timesR x zs) ∧ Up w w' := by
  have hmk : ∀ W, (Instr.makeSlice 90 (.int .i64 (zs.length : Int)) (.int .i64 (zs.length : Int))).run Tryz.prog W = .ok (.slice (some ⟨W.heap.size, 0, none⟩) zs.length zs.length) (W.alloc (.cells (zeroRow zs.length) 108)) := fun W => mkRow zs.length (by omega) W
  have HX := Lib.hid hx
  obtain ⟨s, B, m, q, rfl, -⟩ := hx.open_
  have HB0 := Lib.hid (RowB.new (w.alloc (.cells #[.int .i64 s, .slice B m q] 108)) zs.length)
  have HC0 := Lib.hid ((CellZ.new w s B m q).up (Up.alloc _ (.cells (zeroRow zs.length) 108)))
  have HU0 := Lib.hid ((Up.alloc w (.cells #[.int .i64 s, .slice B m q] 108)).trans (Up.alloc _ (.cells (zeroRow zs.length) 108)))
  rw [size_alloc] at HB0
  have HM := Lib.hid (Nat.le_trans hc hcm)
  clear hcm hc hx
  go_enter Tryz.func158, Tryz.ntmps158
  go_wp2
  generalize (w.alloc (.cells #[.int .i64 s, .slice B m q] 108)).alloc (.cells (zeroRow zs.length) 108) = wB at *
  obtain ⟨g, hg⟩ : ∃ g, g = w.heap.size + 1 := ⟨_, rfl⟩
  rw [← hg] at HB0 ⊢
  obtain ⟨g0, hg0⟩ : ∃ g0, g0 = w.heap.size := ⟨_, rfl⟩
  rw [← hg0] at HC0 ⊢
  have HG := Lib.hid (show w.heap.size ≤ g by omega)
  have HGG := Lib.hid (show g0 ≠ g by omega)
  clear hg hg0 hmk
  go_loopw [13] (fun i wr => ∃ k : Nat, k ≤ zs.length ∧ i = .int .i64 k ∧ Hid (RowB wr g (fillR (timesR x zs) k)) ∧ Hid (CellZ wr g0 s B m q) ∧ Hid (Up w wr)) (fun i _ => zs.length - (intOf i).toNat)
  case atStart => exact ⟨0, by omega, rfl, Lib.hid (by rw [fillR_zero, timesR_length]; exact HB0.out), HC0, HU0⟩
  case round =>
    obtain ⟨i, hi, rfl, HB, HC, HU⟩ := hrel
    by_cases hil : i < zs.length
    · obtain ⟨b, off, s1, B1, m1, k1, rfl, hbb, c0, c1, hz⟩ := (hr.up HU.out).at_ hil
      have HZ := Lib.hid hz
      have hbz := hb zs[i] (List.getElem_mem hil)
      obtain ⟨z, hzz⟩ : ∃ z, z = zs[i] := ⟨_, rfl⟩
      have HT := Lib.hid (fun W (hu : Up wr W) => intTimes_any _ _ zs[i] x W (hz.up hu) (HX.out.up (HU.out.trans hu)) hbz hbx)
      have HNEXT : Hid (fillR (timesR x zs) (i + 1) = (fillR (timesR x zs) i).set i (zs[i] * x)) := Lib.hid (by
        have h1 : i < (timesR x zs).length := by rw [timesR_length]; exact hil
        have h2 : (timesR x zs)[i] = zs[i] * x := by simp [timesR]
        rw [← fillR_next _ i h1, h2])
      have HIL : Hid (i < (fillR (timesR x zs) i).length) := Lib.hid (by rw [fillR_length _ _ (by rw [timesR_length]; omega), timesR_length]; exact hil)
      rw [← hzz] at HT HNEXT
      clear hzz hz hbz
      obtain ⟨p0, p1, f0, f1, lg0⟩ := HC.out.facts
      have HUY := Lib.hid (Up.alloc wr (.cells #[.int .i64 s1, .slice B1 m1 k1] 108))
      have HY := Lib.hid (CellZ.new wr s1 B1 m1 k1)
      go_wp2_with fail
      refine Calls.mono (HT.out _ HUY.out) ?_
      rintro e w1 ⟨v, rfl, hv, hu⟩
      have HU1 := Lib.hid hu
      have HV := Lib.hid hv
      obtain ⟨s2, B2, m2, k2, rfl, -⟩ := hv.open_
      have HB1 := Lib.hid (HB.out.up (w' := w1) (by (repeat (first | exact Below.refl _ _ | exact Hid.out (by assumption) | refine Up.trans ?_ (Up.drew _) | refine Up.trans ?_ (Up.drewN _ _) | refine Up.trans ?_ (Up.alloc _ _) | refine Up.trans ?_ (Hid.out (by assumption))))))
      obtain ⟨s3, B3, m3, k3, d0, d1⟩ := HB1.out.cells HIL.out
      have f3 := HB1.out.frozen (i * 2)
      have f4 := HB1.out.frozen (i * 2 + 1)
      have lg := HB1.out.lt
      have HB2 := Lib.hid (HB1.out.store HIL.out HV.out)
      have HUS := Lib.hid (((show Up w w1 by (repeat (first | exact Below.refl _ _ | exact Hid.out (by assumption) | refine Up.trans ?_ (Up.drew _) | refine Up.trans ?_ (Up.drewN _ _) | refine Up.trans ?_ (Up.alloc _ _) | refine Up.trans ?_ (Hid.out (by assumption))))).setCell (p := ⟨g, i * 2, none⟩) HG.out (.int .i64 s2)).setCell (p := ⟨g, i * 2 + 1, none⟩) HG.out (.slice B2 m2 k2))
      clear hu hv p0 p1 f0 f1 lg0 c0 c1 hbb
      go_wp2_with fail
      refine ⟨⟨i + 1, by omega, by simp, by rw [HNEXT.out]; exact HB2, Lib.hid ((HC.out.up (w' := w1) (by (repeat (first | exact Below.refl _ _ | exact Hid.out (by assumption) | refine Up.trans ?_ (Up.drew _) | refine Up.trans ?_ (Up.drewN _ _) | refine Up.trans ?_ (Up.alloc _ _) | refine Up.trans ?_ (Hid.out (by assumption)))))).far HGG.out _ _ _ _), HUS⟩, by simp [intOf]; omega⟩
    · have hie : i = zs.length := by omega
      subst hie
      have HF := Lib.hid (by have := HB.out; rw [← timesR_length x zs, fillR_all] at this; exact this)
      go_wp2
      go_ret
      exact ⟨.slice (some ⟨g, 0, none⟩) zs.length zs.length, rfl, ⟨_, zs.length, by rw [timesR_length], Nat.le_of_eq (timesR_length x zs), HM.out, HF.out.rdz, fun b off e => by cases e; exact HG.out⟩, HU.out⟩
end Go.Proofs.YtacbjbnocepnaaaGreatDoor
namespace Go.Proofs.YtacbjbnocepnaaaGreatDoor
open Go.RowKit Fm
theorem overR_length (x : Int) (r : List Int) : (overR x r).length = r.length := by simp [overR]
theorem negR_length (r : List Int) : (negR r).length = r.length := by simp [negR]
theorem plusR_length (r s : List Int) (h : r.length = s.length) : (plusR r s).length = r.length := by simp [plusR, h]
set_option maxHeartbeats 1000000 in
set_option maxRecDepth 10000 in
theorem rowOver_any (A : Option Addr) (c : Nat) (zs : List Int) (u : Value) (x : Int) (w : World) (hc : zs.length ≤ c) (hcm : c ≤ maxLen) (hn : zs.length ≤ 1000000) (hr : RdZ w A zs) (hx : IV w u x) (hb : Bd 67108864 zs) (hbx : x ≠ 0) :
    Calls Tryz.prog 117 #[.slice A zs.length c, u] w fun e w' => ∃ v, e = .returned v ∧ RowF w w' v (overR x zs) ∧ Up w w' := by
  have hmk : ∀ W, (Instr.makeSlice 90 (.int .i64 (zs.length : Int)) (.int .i64 (zs.length : Int))).run Tryz.prog W = .ok (.slice (some ⟨W.heap.size, 0, none⟩) zs.length zs.length) (W.alloc (.cells (zeroRow zs.length) 108)) := fun W => mkRow zs.length (by omega) W
  have HX := Lib.hid hx
  obtain ⟨s, B, m, q, rfl, -⟩ := hx.open_
  have HB0 := Lib.hid (RowB.new (w.alloc (.cells #[.int .i64 s, .slice B m q] 108)) zs.length)
  have HC0 := Lib.hid ((CellZ.new w s B m q).up (Up.alloc _ (.cells (zeroRow zs.length) 108)))
  have HU0 := Lib.hid ((Up.alloc w (.cells #[.int .i64 s, .slice B m q] 108)).trans (Up.alloc _ (.cells (zeroRow zs.length) 108)))
  rw [size_alloc] at HB0
  have HM := Lib.hid (Nat.le_trans hc hcm)
  have HBX := Lib.hid hbx
  clear hcm hc hx hbx
  go_enter Tryz.func117, Tryz.ntmps117
  go_wp2
  generalize (w.alloc (.cells #[.int .i64 s, .slice B m q] 108)).alloc (.cells (zeroRow zs.length) 108) = wB at *
  obtain ⟨g, hg⟩ : ∃ g, g = w.heap.size + 1 := ⟨_, rfl⟩
  rw [← hg] at HB0 ⊢
  obtain ⟨g0, hg0⟩ : ∃ g0, g0 = w.heap.size := ⟨_, rfl⟩
  rw [← hg0] at HC0 ⊢
  have HG := Lib.hid (show w.heap.size ≤ g by omega)
  have HGG := Lib.hid (show g0 ≠ g by omega)
  clear hg hg0 hmk
  go_loopw [13] (fun i wr => ∃ k : Nat, k ≤ zs.length ∧ i = .int .i64 k ∧ Hid (RowB wr g (fillR (overR x zs) k)) ∧ Hid (CellZ wr g0 s B m q) ∧ Hid (Up w wr)) (fun i _ => zs.length - (intOf i).toNat)
  case atStart => exact ⟨0, by omega, rfl, Lib.hid (by rw [fillR_zero, overR_length]; exact HB0.out), HC0, HU0⟩
  case round =>
    obtain ⟨i, hi, rfl, HB, HC, HU⟩ := hrel
    by_cases hil : i < zs.length
    · obtain ⟨b, off, s1, B1, m1, k1, rfl, hbb, c0, c1, hz⟩ := (hr.up HU.out).at_ hil
      have HZ := Lib.hid hz
      have hbz := hb zs[i] (List.getElem_mem hil)
      obtain ⟨z, hzz⟩ : ∃ z, z = zs[i] := ⟨_, rfl⟩
      have HT := Lib.hid (fun W (hu : Up wr W) => intQuo_any _ _ zs[i] x W (hz.up hu) (HX.out.up (HU.out.trans hu)) hbz HBX.out)
      have HNEXT : Hid (fillR (overR x zs) (i + 1) = (fillR (overR x zs) i).set i (zs[i].tdiv x)) := Lib.hid (by
        have h1 : i < (overR x zs).length := by rw [overR_length]; exact hil
        have h2 : (overR x zs)[i] = zs[i].tdiv x := by simp [overR]
        rw [← fillR_next _ i h1, h2])
      have HIL : Hid (i < (fillR (overR x zs) i).length) := Lib.hid (by rw [fillR_length _ _ (by rw [overR_length]; omega), overR_length]; exact hil)
      rw [← hzz] at HT HNEXT
      clear hzz hz hbz
      obtain ⟨p0, p1, f0, f1, lg0⟩ := HC.out.facts
      have HUY := Lib.hid (Up.alloc wr (.cells #[.int .i64 s1, .slice B1 m1 k1] 108))
      have HY := Lib.hid (CellZ.new wr s1 B1 m1 k1)
      go_wp2_with fail
      refine Calls.mono (HT.out _ HUY.out) ?_
      rintro e w1 ⟨v, rfl, hv, hu⟩
      have HU1 := Lib.hid hu
      have HV := Lib.hid hv
      obtain ⟨s2, B2, m2, k2, rfl, -⟩ := hv.open_
      have HB1 := Lib.hid (HB.out.up (w' := w1) (by (repeat (first | exact Below.refl _ _ | exact Hid.out (by assumption) | refine Up.trans ?_ (Up.drew _) | refine Up.trans ?_ (Up.drewN _ _) | refine Up.trans ?_ (Up.alloc _ _) | refine Up.trans ?_ (Hid.out (by assumption))))))
      obtain ⟨s3, B3, m3, k3, d0, d1⟩ := HB1.out.cells HIL.out
      have f3 := HB1.out.frozen (i * 2)
      have f4 := HB1.out.frozen (i * 2 + 1)
      have lg := HB1.out.lt
      have HB2 := Lib.hid (HB1.out.store HIL.out HV.out)
      have HUS := Lib.hid (((show Up w w1 by (repeat (first | exact Below.refl _ _ | exact Hid.out (by assumption) | refine Up.trans ?_ (Up.drew _) | refine Up.trans ?_ (Up.drewN _ _) | refine Up.trans ?_ (Up.alloc _ _) | refine Up.trans ?_ (Hid.out (by assumption))))).setCell (p := ⟨g, i * 2, none⟩) HG.out (.int .i64 s2)).setCell (p := ⟨g, i * 2 + 1, none⟩) HG.out (.slice B2 m2 k2))
      clear hu hv p0 p1 f0 f1 lg0 c0 c1 hbb
      go_wp2_with fail
      refine ⟨⟨i + 1, by omega, by simp, by rw [HNEXT.out]; exact HB2, Lib.hid ((HC.out.up (w' := w1) (by (repeat (first | exact Below.refl _ _ | exact Hid.out (by assumption) | refine Up.trans ?_ (Up.drew _) | refine Up.trans ?_ (Up.drewN _ _) | refine Up.trans ?_ (Up.alloc _ _) | refine Up.trans ?_ (Hid.out (by assumption)))))).far HGG.out _ _ _ _), HUS⟩, by simp [intOf]; omega⟩
    · have hie : i = zs.length := by omega
      subst hie
      have HF := Lib.hid (by have := HB.out; rw [← overR_length x zs, fillR_all] at this; exact this)
      go_wp2
      go_ret
      exact ⟨.slice (some ⟨g, 0, none⟩) zs.length zs.length, rfl, ⟨_, zs.length, by rw [overR_length], Nat.le_of_eq (overR_length x zs), HM.out, HF.out.rdz, fun b off e => by cases e; exact HG.out⟩, HU.out⟩
set_option maxHeartbeats 1000000 in
set_option maxRecDepth 10000 in
theorem rowNeg_any (A : Option Addr) (c : Nat) (zs : List Int) (w : World) (hc : zs.length ≤ c) (hcm : c ≤ maxLen) (hn : zs.length ≤ 1000000) (hr : RdZ w A zs) :
    Calls Tryz.prog 146 #[.slice A zs.length c] w fun e w' => ∃ v, e = .returned v ∧ RowF w w' v (negR zs) ∧ Up w w' := by
  have hmk : ∀ W, (Instr.makeSlice 90 (.int .i64 (zs.length : Int)) (.int .i64 (zs.length : Int))).run Tryz.prog W = .ok (.slice (some ⟨W.heap.size, 0, none⟩) zs.length zs.length) (W.alloc (.cells (zeroRow zs.length) 108)) := fun W => mkRow zs.length (by omega) W
  have HB0 := Lib.hid (RowB.new w zs.length)
  have HU0 := Lib.hid (Up.alloc w (.cells (zeroRow zs.length) 108))
  have HM := Lib.hid (Nat.le_trans hc hcm)
  clear hcm hc
  go_enter Tryz.func146, Tryz.ntmps146
  go_wp2
  generalize w.alloc (.cells (zeroRow zs.length) 108) = wB at *
  obtain ⟨g, hg⟩ : ∃ g, g = w.heap.size := ⟨_, rfl⟩
  rw [← hg] at HB0 ⊢
  have HG := Lib.hid (show w.heap.size ≤ g by omega)
  clear hg hmk
  go_loopw [11] (fun i wr => ∃ k : Nat, k ≤ zs.length ∧ i = .int .i64 k ∧ Hid (RowB wr g (fillR (negR zs) k)) ∧ Hid (Up w wr)) (fun i _ => zs.length - (intOf i).toNat)
  case atStart => exact ⟨0, by omega, rfl, Lib.hid (by rw [fillR_zero, negR_length]; exact HB0.out), HU0⟩
  case round =>
    obtain ⟨i, hi, rfl, HB, HU⟩ := hrel
    by_cases hil : i < zs.length
    · obtain ⟨b, off, s1, B1, m1, k1, rfl, hbb, c0, c1, hz⟩ := (hr.up HU.out).at_ hil
      have HZ := Lib.hid hz
      obtain ⟨z, hzz⟩ : ∃ z, z = zs[i] := ⟨_, rfl⟩
      have HT := Lib.hid (fun W (hu : Up wr W) => neg_any _ zs[i] W (hz.up hu))
      have HNEXT : Hid (fillR (negR zs) (i + 1) = (fillR (negR zs) i).set i (-zs[i])) := Lib.hid (by
        have h1 : i < (negR zs).length := by rw [negR_length]; exact hil
        have h2 : (negR zs)[i] = -zs[i] := by simp [negR]
        rw [← fillR_next _ i h1, h2])
      have HIL : Hid (i < (fillR (negR zs) i).length) := Lib.hid (by rw [fillR_length _ _ (by rw [negR_length]; omega), negR_length]; exact hil)
      rw [← hzz] at HT HNEXT
      clear hzz hz
      have HUY := Lib.hid (Up.alloc wr (.cells #[.int .i64 s1, .slice B1 m1 k1] 108))
      have HY := Lib.hid (CellZ.new wr s1 B1 m1 k1)
      go_wp2_with fail
      refine Calls.mono (HT.out _ HUY.out) ?_
      rintro e w1 ⟨v, rfl, hv, hu⟩
      have HU1 := Lib.hid hu
      have HV := Lib.hid hv
      obtain ⟨s2, B2, m2, k2, rfl, -⟩ := hv.open_
      have HB1 := Lib.hid (HB.out.up (w' := w1) (by (repeat (first | exact Below.refl _ _ | exact Hid.out (by assumption) | refine Up.trans ?_ (Up.drew _) | refine Up.trans ?_ (Up.drewN _ _) | refine Up.trans ?_ (Up.alloc _ _) | refine Up.trans ?_ (Hid.out (by assumption))))))
      obtain ⟨s3, B3, m3, k3, d0, d1⟩ := HB1.out.cells HIL.out
      have f3 := HB1.out.frozen (i * 2)
      have f4 := HB1.out.frozen (i * 2 + 1)
      have lg := HB1.out.lt
      have HB2 := Lib.hid (HB1.out.store HIL.out HV.out)
      have HUS := Lib.hid (((show Up w w1 by (repeat (first | exact Below.refl _ _ | exact Hid.out (by assumption) | refine Up.trans ?_ (Up.drew _) | refine Up.trans ?_ (Up.drewN _ _) | refine Up.trans ?_ (Up.alloc _ _) | refine Up.trans ?_ (Hid.out (by assumption))))).setCell (p := ⟨g, i * 2, none⟩) HG.out (.int .i64 s2)).setCell (p := ⟨g, i * 2 + 1, none⟩) HG.out (.slice B2 m2 k2))
      clear hu hv c0 c1 hbb
      go_wp2_with fail
      refine ⟨⟨i + 1, by omega, by simp, by rw [HNEXT.out]; exact HB2, HUS⟩, by simp [intOf]; omega⟩
    · have hie : i = zs.length := by omega
      subst hie
      have HF := Lib.hid (by have := HB.out; rw [← negR_length zs, fillR_all] at this; exact this)
      go_wp2
      go_ret
      exact ⟨.slice (some ⟨g, 0, none⟩) zs.length zs.length, rfl, ⟨_, zs.length, by rw [negR_length], Nat.le_of_eq (negR_length zs), HM.out, HF.out.rdz, fun b off e => by cases e; exact HG.out⟩, HU.out⟩
set_option maxHeartbeats 1000000 in
set_option maxRecDepth 10000 in
theorem rowPlus_any (A E : Option Addr) (c d : Nat) (zs ys : List Int) (w : World) (hc : zs.length ≤ c) (hcm : c ≤ maxLen) (hn : zs.length ≤ 1000000) (hr : RdZ w A zs) (hr2 : RdZ w E ys) (hys : zs.length = ys.length) (hb : Bd 67108864 zs) (hb2 : Bd 67108864 ys) :
    Calls Tryz.prog 159 #[.slice A zs.length c, .slice E ys.length d] w fun e w' => ∃ v, e = .returned v ∧ RowF w w' v (plusR zs ys) ∧ Up w w' := by
  have hmk : ∀ W, (Instr.makeSlice 90 (.int .i64 (zs.length : Int)) (.int .i64 (zs.length : Int))).run Tryz.prog W = .ok (.slice (some ⟨W.heap.size, 0, none⟩) zs.length zs.length) (W.alloc (.cells (zeroRow zs.length) 108)) := fun W => mkRow zs.length (by omega) W
  have HB0 := Lib.hid (RowB.new w zs.length)
  have HU0 := Lib.hid (Up.alloc w (.cells (zeroRow zs.length) 108))
  have HM := Lib.hid (Nat.le_trans hc hcm)
  have HYS := Lib.hid hys
  rw [← hys]
  clear hcm hc hys
  go_enter Tryz.func159, Tryz.ntmps159
  go_wp2
  generalize w.alloc (.cells (zeroRow zs.length) 108) = wB at *
  obtain ⟨g, hg⟩ : ∃ g, g = w.heap.size := ⟨_, rfl⟩
  rw [← hg] at HB0 ⊢
  have HG := Lib.hid (show w.heap.size ≤ g by omega)
  clear hg hmk
  go_loopw [13] (fun i wr => ∃ k : Nat, k ≤ zs.length ∧ i = .int .i64 k ∧ Hid (RowB wr g (fillR (plusR zs ys) k)) ∧ Hid (Up w wr)) (fun i _ => zs.length - (intOf i).toNat)
  case atStart => exact ⟨0, by omega, rfl, Lib.hid (by rw [fillR_zero, plusR_length zs ys HYS.out]; exact HB0.out), HU0⟩
  case round =>
    obtain ⟨i, hi, rfl, HB, HU⟩ := hrel
    by_cases hil : i < zs.length
    · obtain ⟨b, off, s1, B1, m1, k1, rfl, hbb, c0, c1, hz⟩ := (hr.up HU.out).at_ hil
      have HZ := Lib.hid hz
      have hil2 : i < ys.length := by have := HYS.out; omega
      obtain ⟨b2, off2, s5, B5, m5, k5, rfl, hbb2, e0, e1, hz2⟩ := (hr2.up HU.out).at_ hil2
      have hbz := hb zs[i] (List.getElem_mem hil)
      have hbz2 := hb2 ys[i] (List.getElem_mem hil2)
      obtain ⟨y, hyy⟩ : ∃ y, y = ys[i] := ⟨_, rfl⟩
      obtain ⟨z, hzz⟩ : ∃ z, z = zs[i] := ⟨_, rfl⟩
      have HT := Lib.hid (fun W (hu : Up wr W) => intPlus_any _ _ zs[i] (ys[i]'(by have := HYS.out; omega)) W (hz.up hu) (hz2.up hu) hbz hbz2)
      have HNEXT : Hid (fillR (plusR zs ys) (i + 1) = (fillR (plusR zs ys) i).set i (zs[i] + ys[i]'(by have := HYS.out; omega))) := Lib.hid (by
        have h1 : i < (plusR zs ys).length := by rw [plusR_length zs ys HYS.out]; exact hil
        have h2 : (plusR zs ys)[i] = zs[i] + ys[i]'(by have := HYS.out; omega) := by simp [plusR]
        rw [← fillR_next _ i h1, h2])
      have HIL : Hid (i < (fillR (plusR zs ys) i).length) := Lib.hid (by rw [fillR_length _ _ (by rw [plusR_length zs ys HYS.out]; omega), plusR_length zs ys HYS.out]; exact hil)
      rw [← hzz, ← hyy] at HT HNEXT
      clear hzz hyy hz hz2 hil2 hbz hbz2
      have HUY := Lib.hid (Up.alloc wr (.cells #[.int .i64 s1, .slice B1 m1 k1] 108))
      have HY := Lib.hid (CellZ.new wr s1 B1 m1 k1)
      go_upto_region 5 with fail
      obtain ⟨x0, x1, -, -, ly⟩ := HY.out.facts
      obtain ⟨y0, y1⟩ := two_cells HUY.out hbb2 e0 e1
      obtain ⟨wY, hwY⟩ : ∃ wY, wY = wr.alloc (.cells #[.int .i64 s1, .slice B1 m1 k1] 108) := ⟨_, rfl⟩
      rw [← hwY] at HUY HY x0 x1 y0 y1 ly ⊢
      clear hwY c0 c1 e0 e1
      have ii0 : (0 : Int) ≤ (i : Int) := by omega
      have ii1 : (i : Int) < (zs.length : Int) := by omega
      go_region_with
        ((go_at_call 141
          refine Calls.mono (HT.out _ (by (repeat (first | exact Below.refl _ _ | exact Hid.out (by assumption) | refine Up.trans ?_ (Up.drew _) | refine Up.trans ?_ (Up.drewN _ _) | refine Up.trans ?_ (Up.alloc _ _) | refine Up.trans ?_ (Hid.out (by assumption)))))) ?_
          rintro e w1 ⟨v, rfl, hv, hu⟩
          have HU1 := Lib.hid hu
          have HV := Lib.hid hv
          obtain ⟨s2, B2, m2, k2, rfl, -⟩ := hv.open_
          have HB1 := Lib.hid (HB.out.up (w' := w1) (by (repeat (first | exact Below.refl _ _ | exact Hid.out (by assumption) | refine Up.trans ?_ (Up.drew _) | refine Up.trans ?_ (Up.drewN _ _) | refine Up.trans ?_ (Up.alloc _ _) | refine Up.trans ?_ (Hid.out (by assumption))))))
          obtain ⟨s3, B3, m3, k3, d0, d1⟩ := HB1.out.cells HIL.out
          have f3 := HB1.out.frozen (i * 2)
          have f4 := HB1.out.frozen (i * 2 + 1)
          have lg := HB1.out.lt
          have HB2 := Lib.hid (HB1.out.store HIL.out HV.out)
          have HUS := Lib.hid (((show Up w w1 by (repeat (first | exact Below.refl _ _ | exact Hid.out (by assumption) | refine Up.trans ?_ (Up.drew _) | refine Up.trans ?_ (Up.drewN _ _) | refine Up.trans ?_ (Up.alloc _ _) | refine Up.trans ?_ (Hid.out (by assumption))))).setCell (p := ⟨g, i * 2, none⟩) HG.out (.int .i64 s2)).setCell (p := ⟨g, i * 2 + 1, none⟩) HG.out (.slice B2 m2 k2))
          clear hu hv))
      all_goals
        go_wp2_with fail
        refine ⟨⟨i + 1, by omega, by simp, by rw [HNEXT.out]; exact HB2, HUS⟩, by simp [intOf]; omega⟩
    · have hie : i = zs.length := by omega
      subst hie
      have HF := Lib.hid (by have := HB.out; rw [← plusR_length zs ys HYS.out, fillR_all] at this; exact this)
      go_wp2
      go_ret
      exact ⟨.slice (some ⟨g, 0, none⟩) zs.length zs.length, rfl, ⟨_, zs.length, by rw [plusR_length zs ys HYS.out], Nat.le_of_eq (plusR_length zs ys HYS.out), HM.out, HF.out.rdz, fun b off e => by cases e; exact HG.out⟩, HU.out⟩
end Go.Proofs.YtacbjbnocepnaaaGreatDoor
namespace Go.Proofs.YtacbjbnocepnaaaGreatDoor
open Go.RowKit Fm
theorem CellZ.not_digit {w : World} {g : Nat} {s : Int} {B : Option Addr} {m k : Nat} (h : CellZ w g s B m k) (j x : Nat) : w.cell? ⟨g, j, none⟩ ≠ some (.int .u32 (x : Int)) := by
  rw [cell_of_row w g j _ _ _ h]
  match j with
  | 0 => intro e; injection e with e; injection e with e1 e2; cases e1
  | 1 => intro e; injection e with e; cases e
  | j + 2 => simp
theorem CellZ.set {w : World} {g : Nat} {s : Int} {B : Option Addr} {m k : Nat} (h : CellZ w g s B m k) (s' : Int) (B' : Option Addr) (m' k' : Nat) : CellZ ((w.setCell ⟨g, 0, none⟩ (.int .i64 s')).setCell ⟨g, 1, none⟩ (.slice B' m' k')) g s' B' m' k' := by
  unfold CellZ at h ⊢
  simp [World.setCell, Array.getElem?_modify, h]
theorem IV.put {w : World} {v : Value} {z : Int} {g : Nat} (h : IV w v z) (hg : ∀ j x : Nat, w.cell? ⟨g, j, none⟩ ≠ some (.int .u32 (x : Int))) (o1 o2 : Nat) (u u' : Value) : IV ((w.setCell ⟨g, o1, none⟩ u).setCell ⟨g, o2, none⟩ u') v z := by
  obtain ⟨s, d, hv, h⟩ := h; exact ⟨s, d, hv, h.put hg _ _ _ _⟩
def VarZ (w0 : World) (g : Nat) (z : Int) (w : World) : Prop := ∃ s B m q, CellZ w g s B m q ∧ IV w (.agg #[.int .i64 s, .slice B m q]) z ∧ Up w0 w
set_option maxHeartbeats 1000000 in
set_option maxRecDepth 10000 in
theorem rowPrim_any (A : Option Addr) (c : Nat) (zs : List Int) (w : World) (hc : zs.length ≤ c) (hcm : c ≤ maxLen) (hn : zs.length ≤ 1000000) (hr : RdZ w A zs) (hb : Bd 67108864 zs) (ht : Tab w) :
    Calls Tryz.prog 78 #[.slice A zs.length c] w fun e w' => ∃ A' c', e = .returned (.slice A' (primR zs).length c') ∧ (primR zs).length ≤ c' ∧ c' ≤ maxLen ∧ RdZ w' A' (primR zs) ∧ (∀ b off, A' = some ⟨b, off, none⟩ → w.heap.size ≤ b ∨ A' = A) ∧ Up w w' := by
  have HO := Lib.hid (fun W u (hu : Up w W) (hx : IV W u (gcdR 0 zs : Nat)) (h0 : ((gcdR 0 zs : Nat) : Int) ≠ 0) => rowOver_any A c zs u (gcdR 0 zs : Nat) W hc hcm hn (hr.up hu) hx hb h0)
  have HV0 : Hid (VarZ w w.heap.size ((gcdR 0 (zs.take 0) : Nat) : Int) (w.alloc (.cells #[.int .i64 0, .slice none 0 0] 108))) :=
    Lib.hid ⟨0, none, 0, 0, CellZ.new w 0 none 0 0, IV.small (by decide), Up.alloc _ _⟩
  have HM := Lib.hid (And.intro hc hcm)
  have hR0 := Lib.hid hr
  clear hcm hc
  go_enter Tryz.func78, Tryz.ntmps78
  go_wp2
  generalize w.alloc (.cells #[.int .i64 0, .slice none 0 0] 108) = wB at *
  obtain ⟨g, hg⟩ : ∃ g, g = w.heap.size := ⟨_, rfl⟩
  rw [← hg] at HV0 ⊢
  have HG := Lib.hid (show w.heap.size ≤ g by omega)
  clear hg
  go_loopw [8] (fun i wr => ∃ k : Nat, k ≤ zs.length ∧ i = .int .i64 k ∧ Hid (VarZ w g ((gcdR 0 (zs.take k) : Nat) : Int) wr)) (fun i _ => zs.length - (intOf i).toNat)
  case atStart => exact ⟨0, by omega, rfl, HV0⟩
  case round =>
    obtain ⟨i, hi, rfl, HV⟩ := hrel
    obtain ⟨s, B, m, q, hC, hZ, hU⟩ := HV.out
    have HC := Lib.hid hC
    have HZ := Lib.hid hZ
    have HU := Lib.hid hU
    clear hC hZ hU HV
    by_cases hil : i < zs.length
    · obtain ⟨b, off, s1, B1, m1, k1, rfl, hbb, c0, c1, hz⟩ := (hr.up HU.out).at_ hil
      have hbz := hb zs[i] (List.getElem_mem hil)
      have hbt : bl ((gcdR 0 (zs.take i) : Nat) : Int) ≤ 67108864 := gcdR_bl _ 0 _ (by rw [Int.ofNat_zero, bl_zero]; omega) (fun y hy => hb y (List.mem_of_mem_take hy))
      have HT := Lib.hid (fun W u (hu : Up wr W) (hv : IV W u ((gcdR 0 (zs.take i) : Nat) : Int)) => intGcd_any u _ _ zs[i] W hv (hz.up hu) hbt hbz (ht.up (HU.out.trans hu)))
      have HNEXT : Hid (gcdR 0 (zs.take (i + 1)) = Int.gcd ((gcdR 0 (zs.take i) : Nat) : Int) zs[i]) := Lib.hid (by
        rw [gcdR_take zs 0 i hil]; rfl)
      clear hz hbz hbt
      obtain ⟨p0, p1, f0, f1, lg0⟩ := HC.out.facts
      have HUY := Lib.hid (Up.alloc wr (.cells #[.int .i64 s1, .slice B1 m1 k1] 108))
      go_wp2_with fail
      refine Calls.mono (HT.out _ _ HUY.out (HZ.out.up HUY.out)) ?_
      rintro e w1 ⟨v, rfl, hv, hu⟩
      have HU1 := Lib.hid hu
      have HV := Lib.hid hv
      obtain ⟨s2, B2, m2, k2, rfl, -⟩ := hv.open_
      have HC1 := Lib.hid (HC.out.up (w' := w1) (by (repeat (first | exact Below.refl _ _ | exact Hid.out (by assumption) | refine Up.trans ?_ (Up.drew _) | refine Up.trans ?_ (Up.drewN _ _) | refine Up.trans ?_ (Up.alloc _ _) | refine Up.trans ?_ (Hid.out (by assumption))))))
      obtain ⟨p0, p1, f0, f1, lg0⟩ := HC1.out.facts
      have HN : Hid (VarZ w g ((gcdR 0 (zs.take (i + 1)) : Nat) : Int) ((w1.setCell ⟨g, 0, none⟩ (.int .i64 s2)).setCell ⟨g, 1, none⟩ (.slice B2 m2 k2))) :=
        Lib.hid ⟨s2, B2, m2, k2, HC1.out.set _ _ _ _, by rw [HNEXT.out]; exact HV.out.put HC1.out.not_digit _ _ _ _, (show Up w w1 by (repeat (first | exact Below.refl _ _ | exact Hid.out (by assumption) | refine Up.trans ?_ (Up.drew _) | refine Up.trans ?_ (Up.drewN _ _) | refine Up.trans ?_ (Up.alloc _ _) | refine Up.trans ?_ (Hid.out (by assumption))))).stored HG.out _ _⟩
      clear hu hv c0 c1 hbb
      go_wp2_with fail
      exact ⟨⟨i + 1, by omega, by simp, HN⟩, by simp [intOf]; omega⟩
    · have hie : i = zs.length := by omega
      subst hie
      rw [List.take_length] at HZ
      obtain ⟨p0, p1, f0, f1, lg0⟩ := HC.out.facts
      have HSG := Lib.hid (fun W (hu : Up wr W) => intSign_any _ _ W (HZ.out.up hu))
      go_wp2_with fail
      refine Calls.mono (HSG.out _ (Up.refl _)) ?_
      rintro e w1 ⟨rfl, hu⟩
      have HU1 := Lib.hid hu
      clear hu
      obtain ⟨p0, p1, f0, f1, lg0⟩ := (HC.out.up HU1.out).facts
      by_cases h0 : gcdR 0 zs = 0
      · have hs : ((gcdR 0 zs : Nat) : Int).sign = 0 := by rw [h0]; rfl
        have HP : Hid (primR zs = zs) := Lib.hid (by unfold primR; rw [if_pos h0])
        rw [hs]
        clear hs h0
        go_wp2
        go_ret
        exact ⟨A, c, by rw [HP.out]; rfl, by rw [HP.out]; exact HM.out.1, HM.out.2, by rw [HP.out]; exact hR0.out.up (by (repeat (first | exact Below.refl _ _ | exact Hid.out (by assumption) | refine Up.trans ?_ (Up.drew _) | refine Up.trans ?_ (Up.drewN _ _) | refine Up.trans ?_ (Up.alloc _ _) | refine Up.trans ?_ (Hid.out (by assumption))))), fun _ _ _ => .inr rfl, by (repeat (first | exact Below.refl _ _ | exact Hid.out (by assumption) | refine Up.trans ?_ (Up.drew _) | refine Up.trans ?_ (Up.drewN _ _) | refine Up.trans ?_ (Up.alloc _ _) | refine Up.trans ?_ (Hid.out (by assumption))))⟩
      · have hs : ((gcdR 0 zs : Nat) : Int).sign = 1 := Int.sign_eq_one_of_pos (by omega)
        have HP : Hid (primR zs = overR ((gcdR 0 zs : Nat) : Int) zs) := Lib.hid (by unfold primR; rw [if_neg h0]; rfl)
        have HO1 := Lib.hid (fun W (hu : Up w1 W) => HO.out W _ (HU.out.trans (HU1.out.trans hu)) (HZ.out.up (HU1.out.trans hu)) (by omega))
        rw [hs]
        clear hs h0
        go_wp2_with fail
        refine Calls.mono (HO1.out _ (Up.refl _)) ?_
        rintro e w2 ⟨v, rfl, hv, hu⟩
        have HU2 := Lib.hid hu
        have HV2 := Lib.hid hv
        clear hu hv
        go_wp2
        go_ret
        obtain ⟨A', c', rfl, h1, h2, h3, h4⟩ := HV2.out
        exact ⟨A', c', by rw [HP.out]; rfl, by rw [HP.out]; exact h1, h2, by rw [HP.out]; exact h3, fun b off e => .inl (Nat.le_trans (show Up w w1 by (repeat (first | exact Below.refl _ _ | exact Hid.out (by assumption) | refine Up.trans ?_ (Up.drew _) | refine Up.trans ?_ (Up.drewN _ _) | refine Up.trans ?_ (Up.alloc _ _) | refine Up.trans ?_ (Hid.out (by assumption))))).size (h4 b off e)), by (repeat (first | exact Below.refl _ _ | exact Hid.out (by assumption) | refine Up.trans ?_ (Up.drew _) | refine Up.trans ?_ (Up.drewN _ _) | refine Up.trans ?_ (Up.alloc _ _) | refine Up.trans ?_ (Hid.out (by assumption))))⟩
end Go.Proofs.YtacbjbnocepnaaaGreatDoor

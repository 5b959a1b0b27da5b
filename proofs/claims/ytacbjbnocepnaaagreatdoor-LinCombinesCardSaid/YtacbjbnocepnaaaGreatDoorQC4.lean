/- What a further law needs. -/
import Derived.Test.YtacbjbnocepnaaaGreatDoorQC2
import Derived.Test.YtacbjbnocepnaaaGreatDoorQCH
import Derived.Test.YtacbjbnocepnaaaGreatDoorQHT2
import Derived.Test.YtacbjbnocepnaaaGreatDoorQHG
import Derived.Deep.RegionLawGrows
namespace Go.Proofs.YtacbjbnocepnaaaGreatDoor
open Go.RowKit Fm
def FP (w : World) (v : Value) (p : Int × Int) : Prop := ∃ s A n c t F m k, v = .agg #[.int .i64 s, .slice A n c, .int .i64 t, .slice F m k] ∧ IV w (.agg #[.int .i64 s, .slice A n c]) p.1 ∧ IV w (.agg #[.int .i64 t, .slice F m k]) p.2
set_option maxHeartbeats 2000000 in
set_option maxRecDepth 10000 in
theorem fracOfP_any (x y : Int) (w : World) (x1 : -9223372036854775808 ≤ x) (x2 : x ≤ 9223372036854775807) (y1 : -9223372036854775808 ≤ y) (y2 : y ≤ 9223372036854775807) :
    Calls Tryz.prog 119 #[.agg #[.int .i64 x, .int .i64 y]] w fun e w' => ∃ v, e = .returned v ∧ FP w' v (x, y) ∧ Up w w' := by
  have HO1 := Lib.hid (fun W => of_any x W x1 x2)
  have HO2 := Lib.hid (fun W => of_any y W y1 y2)
  clear x1 x2 y1 y2
  go_enter Tryz.func119, Tryz.ntmps119
  go_wp2_with fail
  obtain ⟨wB, hwB⟩ : ∃ wB, wB = (w.alloc (.cells #[.int .i64 x, .int .i64 y] 55)).alloc (.cells #[.int .i64 0, .slice none 0 0, .int .i64 0, .slice none 0 0] 110) := ⟨_, rfl⟩
  have HN := Lib.hid (show CellN wB w.heap.size x y by rw [hwB]; exact (CellN.new w x y).up (Up.alloc _ _))
  have HRS := Lib.hid (show Res4 wB (w.heap.size + 1) by rw [hwB]; have := Res4.new (w.alloc (.cells #[.int .i64 x, .int .i64 y] 55)); simpa using this)
  have HU := Lib.hid (show Up w wB by rw [hwB]; exact (Up.alloc _ _).trans (Up.alloc _ _))
  rw [← hwB]
  clear hwB
  obtain ⟨a0, a1, -, -, la⟩ := HN.out.facts
  have hne1 : (w.heap.size = w.heap.size + 1) = False := by simp
  have hne2 : (w.heap.size + 1 = w.heap.size) = False := by simp
  go_region_held3 (fun w' => w'.cell? ⟨w.heap.size, 0, none⟩ = some (.int .i64 x) ∧ w'.cell? ⟨w.heap.size, 1, none⟩ = some (.int .i64 y)) (go_keep)
    ((first
      | (go_at_call_of 116 (Value.int IntKind.i64 x)
         refine Calls.mono (HO1.out _) ?_
         rintro e w5 ⟨v5, rfl, hv5, hu5⟩
         have HU5 := Lib.hid hu5
         obtain ⟨a0, a1, -, -, la⟩ := (HN.out.up (w' := w5) (by (repeat (first | exact Below.refl _ _ | exact Hid.out (by assumption) | refine Up.trans ?_ (Up.drew _) | refine Up.trans ?_ (Up.drewN _ _) | refine Up.trans ?_ (Up.alloc _ _) | refine Up.trans ?_ (Hid.out (by assumption)))))).facts
         obtain ⟨s5, A5, n5, c5, rfl, -, -, -, -, -⟩ := hv5.open_
         have HV5 := Lib.hid hv5
         clear hv5 hu5)
      | (go_at_call_of 116 (Value.int IntKind.i64 y)
         refine Calls.mono (HO2.out _) ?_
         rintro e w7 ⟨v7, rfl, hv7, hu7⟩
         have HU7 := Lib.hid hu7
         obtain ⟨a0, a1, -, -, la⟩ := (HN.out.up (w' := w7) (by (repeat (first | exact Below.refl _ _ | exact Hid.out (by assumption) | refine Up.trans ?_ (Up.drew _) | refine Up.trans ?_ (Up.drewN _ _) | refine Up.trans ?_ (Up.alloc _ _) | refine Up.trans ?_ (Hid.out (by assumption)))))).facts
         obtain ⟨r0, r1, r2, r3, f0, f1, f2, f3⟩ := (HRS.out.up (w' := w7) (by (repeat (first | exact Below.refl _ _ | exact Hid.out (by assumption) | refine Up.trans ?_ (Up.drew _) | refine Up.trans ?_ (Up.drewN _ _) | refine Up.trans ?_ (Up.alloc _ _) | refine Up.trans ?_ (Hid.out (by assumption)))))).facts
         have HRS7 := Lib.hid (HRS.out.up (w' := w7) (by (repeat (first | exact Below.refl _ _ | exact Hid.out (by assumption) | refine Up.trans ?_ (Up.drew _) | refine Up.trans ?_ (Up.drewN _ _) | refine Up.trans ?_ (Up.alloc _ _) | refine Up.trans ?_ (Hid.out (by assumption))))))
         obtain ⟨s7, A7, n7, c7, rfl, -, -, -, -, -⟩ := hv7.open_
         have HV7 := Lib.hid hv7
         clear hv7 hu7)))
  have hq := HRS7.out.stored (.int .i64 s5) (.slice A5 n5 c5) (.int .i64 s7) (.slice A7 n7 c7)
  have HVA := Lib.hid ((show IV w7 (.agg #[.int .i64 s5, .slice A5 n5 c5]) x by (refine IV.up (Hid.out (by assumption)) ?_; (repeat (first | exact Below.refl _ _ | exact Hid.out (by assumption) | refine Up.trans ?_ (Up.drew _) | refine Up.trans ?_ (Up.drewN _ _) | refine Up.trans ?_ (Up.alloc _ _) | refine Up.trans ?_ (Hid.out (by assumption)))))).put4 HRS7.out (.int .i64 s5) (.slice A5 n5 c5) (.int .i64 s7) (.slice A7 n7 c7))
  have HVB := Lib.hid (HV7.out.put4 HRS7.out (.int .i64 s5) (.slice A5 n5 c5) (.int .i64 s7) (.slice A7 n7 c7))
  have HUF := Lib.hid ((show Up w w7 by (repeat (first | exact Below.refl _ _ | exact Hid.out (by assumption) | refine Up.trans ?_ (Up.drew _) | refine Up.trans ?_ (Up.drewN _ _) | refine Up.trans ?_ (Up.alloc _ _) | refine Up.trans ?_ (Hid.out (by assumption))))).put4 (show w.heap.size ≤ w.heap.size + 1 by omega) (.int .i64 s5) (.slice A5 n5 c5) (.int .i64 s7) (.slice A7 n7 c7))
  unfold put4 at hq HVA HVB HUF
  obtain ⟨hq0, hq1, hq2, hq3⟩ := hq
  go_wp2
  refine bodyPost_ret (by simp [results, Tryz.results119, go_sem, hq0, hq1, hq2, hq3]; try rfl) rfl ?_
  exact ⟨_, rfl, ⟨_, _, _, _, _, _, _, _, rfl, HVA.out, HVB.out⟩, HUF.out⟩
def eltP : Elt (Int × Int) where
  size := 4
  rel w _ cs p := ∃ s A n c t F m k, cs = [.int .i64 s, .slice A n c, .int .i64 t, .slice F m k] ∧ IVp w s (.slice A n c) p.1 ∧ IVp w t (.slice F m k) p.2
  pos := by decide
  len := by rintro w o cs z ⟨s, A, n, c, t, F, m, k, rfl, -⟩; rfl
  one := by rintro w o cs z ⟨s, A, n, c, t, F, m, k, rfl, -⟩ u hu; simp at hu; rcases hu with rfl | rfl | rfl | rfl <;> rfl
  nod := by
    rintro w o cs z ⟨s, A, n, c, t, F, m, k, rfl, -⟩ u hu
    simp at hu
    rcases hu with rfl | rfl | rfl | rfl
    · exact NoDig.int _
    · exact NoDig.slice _ _ _
    · exact NoDig.int _
    · exact NoDig.slice _ _ _
  up := by rintro w w' o cs z ⟨s, A, n, c, t, F, m, k, rfl, h1, h2⟩ hu; exact ⟨s, A, n, c, t, F, m, k, rfl, h1.up hu, h2.up hu⟩
  grow := by rintro w w' o cs z ⟨s, A, n, c, t, F, m, k, rfl, h1, h2⟩ hg hd; exact ⟨s, A, n, c, t, F, m, k, rfl, h1.grown hg hd, h2.grown hg hd⟩
  move := fun h => h
def zcsP : List Value := [.int .i64 0, .slice none 0 0, .int .i64 0, .slice none 0 0]
def okA : Nat → Value → Prop := fun _ _ => True
theorem ivp_zero (w : World) : IVp w 0 (.slice none 0 0) 0 := .inl ⟨by decide, rfl, none, 0, rfl, Nat.le_refl _, Nat.zero_le _, fun h => absurd rfl h⟩
theorem zcsP_rel (w : World) (o : Option Nat) : eltP.rel w o zcsP (0, 0) := ⟨0, none, 0, 0, 0, none, 0, 0, rfl, ivp_zero w, ivp_zero w⟩
theorem info_fr : (Tryz.prog.info? 110).map (fun i => (i.zero, i.size, i.bytes)) = some (some (.agg #[.int .i64 0, .slice none 0 0, .int .i64 0, .slice none 0 0]), 4, 64) := by kernel_rfl
theorem mkFracs (n : Nat) (hn : n ≤ 4294967296) (w : World) : (Instr.makeSlice 163 (.int .i64 (n : Int)) (.int .i64 (n : Int))).run Tryz.prog w =
    .ok (.slice (some ⟨w.heap.size, 0, none⟩) n n) (w.alloc (.cells (madeCells zcsP.toArray (n * 4)) 110)) := by
  obtain ⟨i0, hi, hz0, hz1, hz2⟩ := info_parts info_fr
  have h := run_make (P := Tryz.prog) w 163 110 i0 _ Tryz.underlying163 hi hz0 .i64 .i64 n n (by omega) (by omega) (by rw [hz2]; omega) (by omega)
  rw [h, hz1]; simp only [Int.toNat_natCast]; rfl
theorem up_put4p {w0 w : World} {g : Nat} (h : Up w0 w) (hg : w0.heap.size ≤ g) (o : Nat) (a b c d : Value) : Up w0 (put4c w g o a b c d) :=
  (((Below.setCell (p := ⟨g, o, none⟩) h hg a).setCell (p := ⟨g, o + 1, none⟩) hg b).setCell (p := ⟨g, o + 2, none⟩) hg c).setCell (p := ⟨g, o + 3, none⟩) hg d
def fillP (xs : List (Int × Int)) (k : Nat) : List (Int × Int) := xs.take k ++ List.replicate (xs.length - k) (0, 0)
theorem fillP_zero (xs : List (Int × Int)) : fillP xs 0 = List.replicate xs.length (0, 0) := by simp [fillP]
theorem fillP_all (xs : List (Int × Int)) : fillP xs xs.length = xs := by simp [fillP]
theorem fillP_length (xs : List (Int × Int)) (k : Nat) (hk : k ≤ xs.length) : (fillP xs k).length = xs.length := by simp [fillP]; omega
theorem fillP_next (xs : List (Int × Int)) (k : Nat) (hk : k < xs.length) : (fillP xs k).set k xs[k] = fillP xs (k + 1) := by
  unfold fillP
  have e : (xs.take k).length = k := by rw [List.length_take]; omega
  rw [List.set_append_right _ _ (by omega), e, Nat.sub_self, show xs.length - k = (xs.length - (k + 1)) + 1 by omega, List.replicate_succ, List.set_cons_zero, List.take_succ_eq_append_getElem hk, List.append_assoc]
  rfl
theorem four_of {cs : List Value} (h : cs.length = 4) : ∃ a b c d, cs = [a, b, c, d] := by
  match cs, h with
  | [a, b, c, d], _ => exact ⟨a, b, c, d, rfl⟩
theorem OwP.cellsP {w0 w : World} {t : TypeId} {g n c : Nat} {zs : List (Int × Int)} (h : OwP eltP okA w0 w t (.slice (some ⟨g, 0, none⟩) n c) zs) {i : Nat} (hi : i < zs.length) :
    g < w.heap.size ∧ (∀ j, w.frozen? ⟨g, j, none⟩ = false) ∧ ∃ a b c d, w.cell? ⟨g, i * 4, none⟩ = some a ∧ w.cell? ⟨g, i * 4 + 1, none⟩ = some b ∧ w.cell? ⟨g, i * 4 + 2, none⟩ = some c ∧ w.cell? ⟨g, i * 4 + 3, none⟩ = some d := by
  obtain ⟨⟨css, h1, h2, h3⟩, h4⟩ := h
  rcases h2.2 with ⟨e, -⟩ | ⟨g1, cap, cur, e, hb, hg, hle, hcm, hsz, htk⟩
  · cases e
  · injection e with e1 e2 e3
    injection e1 with e1
    injection e1 with e1
    subst e1
    obtain ⟨cs, k1, k2⟩ := h1.cell i hi
    obtain ⟨a, b, c, d, rfl⟩ := four_of (eltP.len k1)
    have key : ∀ j u, ([a, b, c, d] : List Value)[j]? = some u → w.cell? ⟨g, i * 4 + j, none⟩ = some u := fun j u hj => by
      have hjl : j < 4 := (List.getElem?_eq_some_iff.1 hj).1
      have hc := h2.cells (g := g) rfl (i * 4 + j) u (by rw [show i * 4 + j = i * eltP.size + j from rfl, k2 j hjl, hj])
      rw [add_zero_off] at hc
      exact hc
    exact ⟨(h2.lt g rfl).2, fun j => by simp [World.frozen?, hg], a, b, c, d, key 0 _ rfl, key 1 _ rfl, key 2 _ rfl, key 3 _ rfl⟩
theorem OwP.storeP {w0 w : World} {t : TypeId} {g n cap : Nat} {zs : List (Int × Int)} (h : OwP eltP okA w0 w t (.slice (some ⟨g, 0, none⟩) n cap) zs) {i : Nat} (hi : i < zs.length) {s : Int} {A : Option Addr} {m c : Nat} {s2 : Int} {A2 : Option Addr} {n2 c2 : Nat} {z : Int × Int} (hz : eltP.rel w (some g) [.int .i64 s, .slice A m c, .int .i64 s2, .slice A2 n2 c2] z) :
    OwP eltP okA w0 (put4c w g (i * 4) (.int .i64 s) (.slice A m c) (.int .i64 s2) (.slice A2 n2 c2)) t (.slice (some ⟨g, 0, none⟩) n cap) (zs.set i z) :=
  h.storeG hi hz fun _ _ _ => trivial
theorem OwP.readP {w0 w : World} {t : TypeId} {g n c : Nat} {zs : List (Int × Int)} (h : OwP eltP okA w0 w t (.slice (some ⟨g, 0, none⟩) n c) zs) : RdE eltP w (some ⟨g, 0, none⟩) zs := by
  obtain ⟨A, c', e, -, -, h3, -⟩ := h.1.read (fun h => h)
  injection e with e1
  rw [e1]
  exact h3
theorem FP.elt {w : World} {v : Value} {p : Int × Int} (h : FP w v p) (o : Option Nat) : ∃ s A n c t F m k, v = .agg #[.int .i64 s, .slice A n c, .int .i64 t, .slice F m k] ∧ eltP.rel w o [.int .i64 s, .slice A n c, .int .i64 t, .slice F m k] p := by
  obtain ⟨s, A, n, c, t, F, m, k, rfl, ⟨s', d', e, h1⟩, ⟨t', f', e2, h2⟩⟩ := h
  cases e
  cases e2
  exact ⟨s, A, n, c, t, F, m, k, rfl, s, A, n, c, t, F, m, k, rfl, h1, h2⟩
set_option maxHeartbeats 2000000 in
set_option maxRecDepth 10000 in
theorem tops_any (A : Option Addr) (c : Nat) (xs : List (Int × Int)) (w : World) (hn : xs.length ≤ 1000000) (hr : RdE eltP w A xs) (hx : ∀ p, p ∈ xs → Rng p.1 p.2) (hp : ∀ p, p ∈ xs → 0 < p.2) (ht : Tab w) :
    Calls Tryz.prog 122 #[.slice A xs.length c] w fun e w' => ∃ v1 v2, e = .returned (.tuple #[v1, v2]) ∧ RowF w w' v1 (xs.map fun p => p.1 * (lowN xs : Int).tdiv p.2) ∧ IV w' v2 (lowN xs : Nat) ∧ Up w w' := by
  have hmk : ∀ W, (Instr.makeSlice 89 (.int .i64 (xs.length : Int)) (.int .i64 (xs.length : Int))).run Tryz.prog W = .ok (.slice (some ⟨W.heap.size, 0, none⟩) xs.length xs.length) (W.alloc (.cells (zeroRow xs.length) 108)) := fun W => mkInts2 xs.length (by omega) W
  have HOF := Lib.hid (fun n W (h1 : -9223372036854775808 ≤ n) (h2 : n ≤ 9223372036854775807) => of_any n W h1 h2)
  have HBL := Lib.hid (lowN_bl xs hx hp)
  have HLP := Lib.hid (fun k => lowN_pos (xs.take k) (fun p h => hp p (List.mem_of_mem_take h)))
  have HT := Lib.hid ht
  clear ht
  go_enter Tryz.func122, Tryz.ntmps122
  go_wp2_with fail
  refine Calls.mono (HOF.out _ _ (by decide) (by decide)) ?_
  rintro e w1 ⟨v1, rfl, hv, hu⟩
  obtain ⟨s1, A1, n1, c1, rfl, -⟩ := hv.open_
  have HU1 := Lib.hid hu
  have HV1 := Lib.hid hv
  clear hu hv
  go_wp2_with fail
  have HZ2 := Lib.hid (((CellZ.new w 0 none 0 0).up HU1.out).up (Up.alloc w1 (.cells #[.int .i64 s1, .slice A1 n1 c1] 108)))
  have HC2 := Lib.hid (CellZ.new w1 s1 A1 n1 c1)
  have HV2 := Lib.hid (HV1.out.up (Up.alloc w1 (.cells #[.int .i64 s1, .slice A1 n1 c1] 108)))
  have HU2 := Lib.hid (((Up.alloc w _).trans HU1.out).trans (Up.alloc w1 (.cells #[.int .i64 s1, .slice A1 n1 c1] 108)))
  obtain ⟨g0, hg0⟩ : ∃ g0, g0 = w1.heap.size := ⟨_, rfl⟩
  have HG0 := Lib.hid (show w.heap.size ≤ g0 by have := ((Up.alloc w _).trans HU1.out).size; omega)
  have HZN := Lib.hid (show w.heap.size ≠ g0 by have h1 := HU1.out.size; rw [size_alloc] at h1; omega)
  rw [← hg0] at HC2 ⊢
  obtain ⟨gz, hgz⟩ : ∃ gz, gz = w.heap.size := ⟨_, rfl⟩
  have HGZZ := Lib.hid (show w.heap.size ≤ gz by omega)
  rw [← hgz] at HZ2 HZN ⊢
  clear hgz
  generalize w1.alloc (.cells #[.int .i64 s1, .slice A1 n1 c1] 108) = wB at *
  clear HV1 HU1 hg0
  go_loopw [13] (fun i wr => ∃ k : Nat, k ≤ xs.length ∧ i = .int .i64 k ∧ ∃ s A1 n1 c1, Hid (CellZ wr gz 0 none 0 0) ∧ Hid (CellZ wr g0 s A1 n1 c1) ∧ Hid (IV wr (.agg #[.int .i64 s, .slice A1 n1 c1]) (lowN (xs.take k) : Nat)) ∧ Hid (Up w wr)) (fun i _ => xs.length - (intOf i).toNat)
  case atStart => exact ⟨0, by omega, rfl, _, _, _, _, HZ2, HC2, HV2, HU2⟩
  case round =>
    obtain ⟨k, hk, rfl, s2, A2, n2, c2, HZ, HC, HV, HU⟩ := hrel
    by_cases hkl : k < xs.length
    · obtain ⟨b, off, cs, rfl, hbb, ⟨e1, B1, o1, k1, e2, B2, o2, k2, rfl, hv1, hv2⟩, hcell⟩ := (hr.up HU.out).at_ hkl
      have d0 := hcell 0 _ rfl
      have d1 := hcell 1 _ rfl
      have d2 := hcell 2 _ rfl
      have d3 := hcell 3 _ rfl
      simp only [eltP, Nat.add_zero] at d0 d1 d2 d3
      clear hcell
      have hR := hx _ (List.getElem_mem hkl)
      have hP := hp _ (List.getElem_mem hkl)
      have hN := lowN_next xs k hkl
      have HB := Lib.hid (HBL.out k (by omega))
      have HL0 := Lib.hid (HLP.out k)
      generalize xs[k].1 = x at *
      generalize xs[k].2 = y at *
      generalize lowN (xs.take k) = l at *
      unfold Rng at hR
      obtain ⟨Y, rfl⟩ : ∃ Y : Nat, y = (Y : Int) := ⟨y.toNat, by omega⟩
      have HN : Hid (((l : Nat) : Int).tdiv (Int.gcd (l : Nat) (Y : Nat) : Nat) * (Y : Nat) = (lowN (xs.take (k + 1)) : Nat)) := Lib.hid (by rw [hN, Int.natAbs_natCast]; exact lcm_int HL0.out)
      have HY2 := Lib.hid (show bl ((Y : Nat) : Int) ≤ 2 from bl_small (by omega))
      have HVY := Lib.hid (show IV wr (.agg #[.int .i64 e2, .slice B2 o2 k2]) (Y : Nat) from ⟨_, _, rfl, hv2⟩)
      have HGZ := Lib.hid (show ((Int.gcd ((l : Nat) : Int) (Y : Nat) : Nat) : Int) ≠ 0 from by have h1 := HL0.out; have h2 := Int.gcd_pos_of_ne_zero_left (Y : Int) (show ((l : Nat) : Int) ≠ 0 by omega); omega)
      have HBK := Lib.hid (show bl ((l : Nat) : Int) ≤ 67108860 by have := HB.out; omega)
      have HGC := Lib.hid (fun W u v (h1 : IV W u (l : Nat)) (h2 : IV W v (Y : Nat)) (hu : Up w W) => intGcd_any u v _ _ W h1 h2 (Nat.le_trans HBK.out (by omega)) (Nat.le_trans HY2.out (by omega)) (HT.out.up hu))
      have HQU := Lib.hid (fun W u v (h1 : IV W u (l : Nat)) (h2 : IV W v (Int.gcd ((l : Nat) : Int) (Y : Nat) : Nat)) => intQuo_any u v _ _ W h1 h2 (Nat.le_trans HBK.out (by omega)) HGZ.out)
      have HTM := Lib.hid (fun W u v (h1 : IV W u (((l : Nat) : Int).tdiv (Int.gcd ((l : Nat) : Int) (Y : Nat) : Nat))) (h2 : IV W v (Y : Nat)) => intTimes_any u v _ _ W h1 h2 (Nat.le_trans (bl_tdiv HBK.out) (by omega)) (Nat.le_trans HY2.out (by omega)))
      rw [HN.out] at HTM
      clear hR hP hN hv1 hv2
      go_upto_region 5 with fail
      have HC3 := Lib.hid HC.out
      have HZ3 := Lib.hid HZ.out
      have HX3 := Lib.hid (Cell4.new wr e1 (.slice B1 o1 k1) e2 (.slice B2 o2 k2))
      have HUX := Lib.hid (Up.alloc wr (.cells #[.int .i64 e1, .slice B1 o1 k1, .int .i64 e2, .slice B2 o2 k2] 110))
      obtain ⟨wX, hwX⟩ : ∃ wX, wX = wr.alloc (.cells #[.int .i64 e1, .slice B1 o1 k1, .int .i64 e2, .slice B2 o2 k2] 110) := ⟨_, rfl⟩
      obtain ⟨g7, hg7⟩ : ∃ g7, g7 = wr.heap.size := ⟨_, rfl⟩
      have HN7 := Lib.hid (show g0 ≠ g7 by have := HC3.out.lt; omega)
      rw [← hwX] at HX3 HUX ⊢
      rw [← hg7] at HX3 ⊢
      have HV4 := Lib.hid (HV.out.up HUX.out)
      have HV3 := Lib.hid (HVY.out.up HUX.out)
      have HU4 := Lib.hid (HU.out.trans HUX.out)
      have HCX := Lib.hid (HC3.out.up HUX.out)
      have HZX := Lib.hid (HZ3.out.up HUX.out)
      clear hwX hg7 d0 d1 d2 d3 hbb HU
      obtain ⟨z0, z1, y0, y1, lz⟩ := HCX.out.facts
      obtain ⟨-, -, t2, t3, lt⟩ := HX3.out.facts
      go_region_law
        ((first
          | (go_simp
             go_at_call 100
             refine Calls.mono (HGC.out _ _ _ (HV4.out.up (by (repeat (first | exact Below.refl _ _ | exact Hid.out (by assumption) | refine Up.trans ?_ (Up.drew _) | refine Up.trans ?_ (Up.drewN _ _) | refine Up.trans ?_ (Up.alloc _ _) | refine Up.trans ?_ (Hid.out (by assumption)))))) (HV3.out.up (by (repeat (first | exact Below.refl _ _ | exact Hid.out (by assumption) | refine Up.trans ?_ (Up.drew _) | refine Up.trans ?_ (Up.drewN _ _) | refine Up.trans ?_ (Up.alloc _ _) | refine Up.trans ?_ (Hid.out (by assumption)))))) (by (repeat (first | exact Below.refl _ _ | exact Hid.out (by assumption) | refine Up.trans ?_ (Up.drew _) | refine Up.trans ?_ (Up.drewN _ _) | refine Up.trans ?_ (Up.alloc _ _) | refine Up.trans ?_ (Hid.out (by assumption)))))) ?_
             rintro e w4 ⟨v4, rfl, hv, hu⟩
             obtain ⟨s4, A4, n4, c4, rfl, -⟩ := hv.open_
             have HU5 := Lib.hid hu
             have HV5 := Lib.hid hv
             obtain ⟨z0, z1, y0, y1, lz⟩ := (HCX.out.up (w' := w4) (by (repeat (first | exact Below.refl _ _ | exact Hid.out (by assumption) | refine Up.trans ?_ (Up.drew _) | refine Up.trans ?_ (Up.drewN _ _) | refine Up.trans ?_ (Up.alloc _ _) | refine Up.trans ?_ (Hid.out (by assumption)))))).facts
             obtain ⟨-, -, t2, t3, lt⟩ := (HX3.out.up (w' := w4) (by (repeat (first | exact Below.refl _ _ | exact Hid.out (by assumption) | refine Up.trans ?_ (Up.drew _) | refine Up.trans ?_ (Up.drewN _ _) | refine Up.trans ?_ (Up.alloc _ _) | refine Up.trans ?_ (Hid.out (by assumption)))))).facts
             clear hu hv)
          | (go_simp
             go_at_call 102
             refine Calls.mono (HQU.out _ _ _ (HV4.out.up (by (repeat (first | exact Below.refl _ _ | exact Hid.out (by assumption) | refine Up.trans ?_ (Up.drew _) | refine Up.trans ?_ (Up.drewN _ _) | refine Up.trans ?_ (Up.alloc _ _) | refine Up.trans ?_ (Hid.out (by assumption)))))) (HV5.out.up (by (repeat (first | exact Below.refl _ _ | exact Hid.out (by assumption) | refine Up.trans ?_ (Up.drew _) | refine Up.trans ?_ (Up.drewN _ _) | refine Up.trans ?_ (Up.alloc _ _) | refine Up.trans ?_ (Hid.out (by assumption))))))) ?_
             rintro e w5 ⟨v5, rfl, hv, hu⟩
             obtain ⟨s5, A5, n5, c5, rfl, -⟩ := hv.open_
             have HU6 := Lib.hid hu
             have HV6 := Lib.hid hv
             obtain ⟨z0, z1, y0, y1, lz⟩ := (HCX.out.up (w' := w5) (by (repeat (first | exact Below.refl _ _ | exact Hid.out (by assumption) | refine Up.trans ?_ (Up.drew _) | refine Up.trans ?_ (Up.drewN _ _) | refine Up.trans ?_ (Up.alloc _ _) | refine Up.trans ?_ (Hid.out (by assumption)))))).facts
             obtain ⟨-, -, t2, t3, lt⟩ := (HX3.out.up (w' := w5) (by (repeat (first | exact Below.refl _ _ | exact Hid.out (by assumption) | refine Up.trans ?_ (Up.drew _) | refine Up.trans ?_ (Up.drewN _ _) | refine Up.trans ?_ (Up.alloc _ _) | refine Up.trans ?_ (Hid.out (by assumption)))))).facts
             clear hu hv)
          | (go_simp
             go_at_call 140
             refine Calls.mono (HTM.out _ _ _ (HV6.out.up (by (repeat (first | exact Below.refl _ _ | exact Hid.out (by assumption) | refine Up.trans ?_ (Up.drew _) | refine Up.trans ?_ (Up.drewN _ _) | refine Up.trans ?_ (Up.alloc _ _) | refine Up.trans ?_ (Hid.out (by assumption)))))) (HV3.out.up (by (repeat (first | exact Below.refl _ _ | exact Hid.out (by assumption) | refine Up.trans ?_ (Up.drew _) | refine Up.trans ?_ (Up.drewN _ _) | refine Up.trans ?_ (Up.alloc _ _) | refine Up.trans ?_ (Hid.out (by assumption))))))) ?_
             rintro e w6 ⟨v6, rfl, hv, hu⟩
             obtain ⟨s6, A6, n6, c6, rfl, -⟩ := hv.open_
             have HU7 := Lib.hid hu
             have HV7 := Lib.hid hv
             obtain ⟨z0, z1, y0, y1, lz⟩ := (HCX.out.up (w' := w6) (by (repeat (first | exact Below.refl _ _ | exact Hid.out (by assumption) | refine Up.trans ?_ (Up.drew _) | refine Up.trans ?_ (Up.drewN _ _) | refine Up.trans ?_ (Up.alloc _ _) | refine Up.trans ?_ (Hid.out (by assumption)))))).facts
             obtain ⟨-, -, t2, t3, lt⟩ := (HX3.out.up (w' := w6) (by (repeat (first | exact Below.refl _ _ | exact Hid.out (by assumption) | refine Up.trans ?_ (Up.drew _) | refine Up.trans ?_ (Up.drewN _ _) | refine Up.trans ?_ (Up.alloc _ _) | refine Up.trans ?_ (Hid.out (by assumption)))))).facts
             clear hu hv)))
      all_goals
        have HC6 := Lib.hid (HCX.out.up (w' := w6) (by (repeat (first | exact Below.refl _ _ | exact Hid.out (by assumption) | refine Up.trans ?_ (Up.drew _) | refine Up.trans ?_ (Up.drewN _ _) | refine Up.trans ?_ (Up.alloc _ _) | refine Up.trans ?_ (Hid.out (by assumption))))))
        have HC7 := Lib.hid (HC6.out.set s6 A6 n6 c6)
        have HZ7 := Lib.hid ((HZX.out.up (w' := w6) (by (repeat (first | exact Below.refl _ _ | exact Hid.out (by assumption) | refine Up.trans ?_ (Up.drew _) | refine Up.trans ?_ (Up.drewN _ _) | refine Up.trans ?_ (Up.alloc _ _) | refine Up.trans ?_ (Hid.out (by assumption)))))).far HZN.out 0 1 (.int .i64 s6) (.slice A6 n6 c6))
        have HV8 := Lib.hid (HV7.out.put HC6.out.not_digit 0 1 (.int .i64 s6) (.slice A6 n6 c6))
        have HU8 := Lib.hid (Up.stored (show Up w w6 by (repeat (first | exact Below.refl _ _ | exact Hid.out (by assumption) | refine Up.trans ?_ (Up.drew _) | refine Up.trans ?_ (Up.drewN _ _) | refine Up.trans ?_ (Up.alloc _ _) | refine Up.trans ?_ (Hid.out (by assumption))))) HG0.out (.int .i64 s6) (.slice A6 n6 c6))
        clear HC6 z0 z1 y0 y1 lz t2 t3 lt
        go_wp2
        exact ⟨⟨k + 1, by omega, by simp, s6, A6, n6, c6, HZ7, HC7, HV8, HU8⟩, by simp [intOf]; omega⟩
    · have hke : k = xs.length := by omega
      subst hke
      rw [List.take_length] at HV
      have HTL : Hid ((xs.map fun p => p.1 * (lowN xs : Int).tdiv p.2).length = xs.length) := Lib.hid (by rw [List.length_map])
      have HB0 := Lib.hid (RowB.new wr xs.length)
      have HUT := Lib.hid (Up.alloc wr (.cells (zeroRow xs.length) 108))
      have HLB := Lib.hid (show bl ((lowN xs : Nat) : Int) ≤ 67108860 by have := HBL.out xs.length (Nat.le_refl _); rw [List.take_length] at this; omega)
      have HLM : Hid (xs.length ≤ maxLen) := Lib.hid (by unfold maxLen; omega)
      go_wp2_with fail
      obtain ⟨wT, hwT⟩ : ∃ wT, wT = wr.alloc (.cells (zeroRow xs.length) 108) := ⟨_, rfl⟩
      obtain ⟨gt, hgt⟩ : ∃ gt, gt = wr.heap.size := ⟨_, rfl⟩
      rw [← hwT] at HB0 HUT ⊢
      rw [← hgt] at HB0 ⊢
      have HGT := Lib.hid (show w.heap.size ≤ gt by have := HU.out.size; omega)
      have HNT := Lib.hid (show g0 ≠ gt by have := HC.out.lt; omega)
      have HCT := Lib.hid (HC.out.up HUT.out)
      have HZT := Lib.hid (HZ.out.up HUT.out)
      have HZM := Lib.hid (show gz ≠ gt by have := HZ.out.lt; omega)
      have HVT := Lib.hid (HV.out.up HUT.out)
      have HUW := Lib.hid (HU.out.trans HUT.out)
      clear hwT hgt hmk HU HUT HC HV HZ HBL HLP HV2 HU2 HC2 HZ2
      go_loopw [32] (fun i wr => ∃ k : Nat, k ≤ xs.length ∧ i = .int .i64 k ∧ Hid (RowB wr gt (fillR (xs.map fun p => p.1 * (lowN xs : Int).tdiv p.2) k)) ∧ Hid (CellZ wr gz 0 none 0 0) ∧ Hid (CellZ wr g0 s2 A2 n2 c2) ∧ Hid (IV wr (.agg #[.int .i64 s2, .slice A2 n2 c2]) (lowN xs : Nat)) ∧ Hid (Up w wr)) (fun i _ => xs.length - (intOf i).toNat)
      case atStart => exact ⟨0, by omega, rfl, Lib.hid (by rw [fillR_zero, HTL.out]; exact HB0.out), HZT, HCT, HVT, HUW⟩
      case round =>
        obtain ⟨k, hk2, rfl, HB, HZ, HC, HV, HU⟩ := hrel
        by_cases hkl2 : k < xs.length
        · obtain ⟨b, off, cs, rfl, hbb, ⟨e1, B1, o1, k1, e2, B2, o2, k2, rfl, hv1, hv2⟩, hcell⟩ := (hr.up HU.out).at_ hkl2
          have d0 := hcell 0 _ rfl
          have d1 := hcell 1 _ rfl
          have d2 := hcell 2 _ rfl
          have d3 := hcell 3 _ rfl
          simp only [eltP, Nat.add_zero] at d0 d1 d2 d3
          clear hcell
          have hR := hx _ (List.getElem_mem hkl2)
          have hP := hp _ (List.getElem_mem hkl2)
          have HNEXT : Hid (fillR (xs.map fun p => p.1 * (lowN xs : Int).tdiv p.2) (k + 1) = (fillR (xs.map fun p => p.1 * (lowN xs : Int).tdiv p.2) k).set k (xs[k].1 * (lowN xs : Int).tdiv xs[k].2)) := Lib.hid (by
            rw [← fillR_next _ k (by rw [HTL.out]; exact hkl2), List.getElem_map])
          have HIL : Hid (k < (fillR (xs.map fun p => p.1 * (lowN xs : Int).tdiv p.2) k).length) := Lib.hid (by rw [fillR_length _ _ (by rw [HTL.out]; omega), HTL.out]; exact hkl2)
          generalize xs[k].1 = x at *
          generalize xs[k].2 = y at *
          unfold Rng at hR
          have HVX := Lib.hid (show IV wr (.agg #[.int .i64 e1, .slice B1 o1 k1]) x from ⟨_, _, rfl, hv1⟩)
          have HVY := Lib.hid (show IV wr (.agg #[.int .i64 e2, .slice B2 o2 k2]) y from ⟨_, _, rfl, hv2⟩)
          have HX2 := Lib.hid (show bl x ≤ 2 from bl_small (by omega))
          have HQU := Lib.hid (fun W u v (h1 : IV W u (lowN xs : Nat)) (h2 : IV W v y) => intQuo_any u v _ _ W h1 h2 (Nat.le_trans HLB.out (by omega)) (by omega))
          have HTM := Lib.hid (fun W u v (h1 : IV W u x) (h2 : IV W v ((lowN xs : Int).tdiv y)) => intTimes_any u v _ _ W h1 h2 (Nat.le_trans HX2.out (by omega)) (Nat.le_trans (bl_tdiv HLB.out) (by omega)))
          clear hR hP hv1 hv2
          go_upto_region 11 with fail
          have HN3 := Lib.hid (Cell4.new wr e1 (.slice B1 o1 k1) e2 (.slice B2 o2 k2))
          have HUX := Lib.hid (Up.alloc wr (.cells #[.int .i64 e1, .slice B1 o1 k1, .int .i64 e2, .slice B2 o2 k2] 110))
          obtain ⟨wX, hwX⟩ : ∃ wX, wX = wr.alloc (.cells #[.int .i64 e1, .slice B1 o1 k1, .int .i64 e2, .slice B2 o2 k2] 110) := ⟨_, rfl⟩
          obtain ⟨gx, hgx⟩ : ∃ gx, gx = wr.heap.size := ⟨_, rfl⟩
          rw [← hwX] at HN3 HUX ⊢
          rw [← hgx] at HN3 ⊢
          have HX5 := Lib.hid (HVX.out.up HUX.out)
          have HY5 := Lib.hid (HVY.out.up HUX.out)
          have HC3 := Lib.hid (HC.out.up HUX.out)
          have HZ3 := Lib.hid (HZ.out.up HUX.out)
          have HV3 := Lib.hid (HV.out.up HUX.out)
          have HB3 := Lib.hid (HB.out.up HUX.out)
          have HUU := Lib.hid (HU.out.trans HUX.out)
          clear hwX hgx d0 d1 d2 d3 hbb HU HUX HC HV HZ HB
          obtain ⟨z0, z1, -, -, lz⟩ := HC3.out.facts
          obtain ⟨t0, t1, t2, t3, lt⟩ := HN3.out.facts
          obtain ⟨sb, Bb, mb, kb, b0, b1⟩ := HB3.out.cells HIL.out
          have f3 := HB3.out.frozen (k * 2)
          have f4 := HB3.out.frozen (k * 2 + 1)
          have lb := HB3.out.lt
          go_region_law
            ((first
              | (go_simp
                 go_at_call 102
                 refine Calls.mono (HQU.out _ _ _ (HV3.out.up (by (repeat (first | exact Below.refl _ _ | exact Hid.out (by assumption) | refine Up.trans ?_ (Up.drew _) | refine Up.trans ?_ (Up.drewN _ _) | refine Up.trans ?_ (Up.alloc _ _) | refine Up.trans ?_ (Hid.out (by assumption)))))) (HY5.out.up (by (repeat (first | exact Below.refl _ _ | exact Hid.out (by assumption) | refine Up.trans ?_ (Up.drew _) | refine Up.trans ?_ (Up.drewN _ _) | refine Up.trans ?_ (Up.alloc _ _) | refine Up.trans ?_ (Hid.out (by assumption))))))) ?_
                 rintro e w6 ⟨v6, rfl, hv, hu⟩
                 obtain ⟨s6, A6, n6, c6, rfl, -⟩ := hv.open_
                 have HU6 := Lib.hid hu
                 have HV6 := Lib.hid hv
                 obtain ⟨z0, z1, -, -, lz⟩ := (HC3.out.up (w' := w6) (by (repeat (first | exact Below.refl _ _ | exact Hid.out (by assumption) | refine Up.trans ?_ (Up.drew _) | refine Up.trans ?_ (Up.drewN _ _) | refine Up.trans ?_ (Up.alloc _ _) | refine Up.trans ?_ (Hid.out (by assumption)))))).facts
                 obtain ⟨t0, t1, t2, t3, lt⟩ := (HN3.out.up (w' := w6) (by (repeat (first | exact Below.refl _ _ | exact Hid.out (by assumption) | refine Up.trans ?_ (Up.drew _) | refine Up.trans ?_ (Up.drewN _ _) | refine Up.trans ?_ (Up.alloc _ _) | refine Up.trans ?_ (Hid.out (by assumption)))))).facts
                 clear hu hv)
              | (go_simp
                 go_at_call 140
                 refine Calls.mono (HTM.out _ _ _ (HX5.out.up (by (repeat (first | exact Below.refl _ _ | exact Hid.out (by assumption) | refine Up.trans ?_ (Up.drew _) | refine Up.trans ?_ (Up.drewN _ _) | refine Up.trans ?_ (Up.alloc _ _) | refine Up.trans ?_ (Hid.out (by assumption)))))) (HV6.out.up (by (repeat (first | exact Below.refl _ _ | exact Hid.out (by assumption) | refine Up.trans ?_ (Up.drew _) | refine Up.trans ?_ (Up.drewN _ _) | refine Up.trans ?_ (Up.alloc _ _) | refine Up.trans ?_ (Hid.out (by assumption))))))) ?_
                 rintro e w7 ⟨v7, rfl, hv, hu⟩
                 obtain ⟨s7, A7, n7, c7, rfl, -⟩ := hv.open_
                 have HU7 := Lib.hid hu
                 have HV7 := Lib.hid hv
                 have HB7 := Lib.hid (HB3.out.up (w' := w7) (by (repeat (first | exact Below.refl _ _ | exact Hid.out (by assumption) | refine Up.trans ?_ (Up.drew _) | refine Up.trans ?_ (Up.drewN _ _) | refine Up.trans ?_ (Up.alloc _ _) | refine Up.trans ?_ (Hid.out (by assumption))))))
                 obtain ⟨sb, Bb, mb, kb, b0, b1⟩ := HB7.out.cells HIL.out
                 have f3 := HB7.out.frozen (k * 2)
                 have f4 := HB7.out.frozen (k * 2 + 1)
                 have lb := HB7.out.lt
                 clear hu hv)))
          all_goals
            have HB8 := Lib.hid (HB7.out.store HIL.out HV7.out)
            have HC8 := Lib.hid ((HC3.out.up (w' := w7) (by (repeat (first | exact Below.refl _ _ | exact Hid.out (by assumption) | refine Up.trans ?_ (Up.drew _) | refine Up.trans ?_ (Up.drewN _ _) | refine Up.trans ?_ (Up.alloc _ _) | refine Up.trans ?_ (Hid.out (by assumption)))))).far HNT.out (k * 2) (k * 2 + 1) (.int .i64 s7) (.slice A7 n7 c7))
            have HZ8 := Lib.hid ((HZ3.out.up (w' := w7) (by (repeat (first | exact Below.refl _ _ | exact Hid.out (by assumption) | refine Up.trans ?_ (Up.drew _) | refine Up.trans ?_ (Up.drewN _ _) | refine Up.trans ?_ (Up.alloc _ _) | refine Up.trans ?_ (Hid.out (by assumption)))))).far HZM.out (k * 2) (k * 2 + 1) (.int .i64 s7) (.slice A7 n7 c7))
            have HV8 := Lib.hid ((HV3.out.up (w' := w7) (by (repeat (first | exact Below.refl _ _ | exact Hid.out (by assumption) | refine Up.trans ?_ (Up.drew _) | refine Up.trans ?_ (Up.drewN _ _) | refine Up.trans ?_ (Up.alloc _ _) | refine Up.trans ?_ (Hid.out (by assumption)))))).put HB7.out.not_digit (k * 2) (k * 2 + 1) (.int .i64 s7) (.slice A7 n7 c7))
            have HU8 := Lib.hid (((show Up w w7 by (repeat (first | exact Below.refl _ _ | exact Hid.out (by assumption) | refine Up.trans ?_ (Up.drew _) | refine Up.trans ?_ (Up.drewN _ _) | refine Up.trans ?_ (Up.alloc _ _) | refine Up.trans ?_ (Hid.out (by assumption))))).setCell (p := ⟨gt, k * 2, none⟩) HGT.out (.int .i64 s7)).setCell (p := ⟨gt, k * 2 + 1, none⟩) HGT.out (.slice A7 n7 c7))
            clear z0 z1 lz t0 t1 t2 t3 lt b0 b1 f3 f4 lb
            go_wp2
            exact ⟨⟨k + 1, by omega, by simp, by rw [HNEXT.out]; exact HB8, HZ8, HC8, HV8, HU8⟩, by simp [intOf]; omega⟩
        · have hke : k = xs.length := by omega
          subst hke
          have HF := Lib.hid (by have := HB.out; rw [← HTL.out, fillR_all] at this; exact this)
          obtain ⟨z0, z1, -, -, lz⟩ := HC.out.facts
          obtain ⟨r0, r1, y0, y1, lr⟩ := HZ.out.facts
          have HZ8 := Lib.hid (HZ.out.set s2 A2 n2 c2)
          have HF8 := Lib.hid (HF.out.far HZM.out.symm HZ.out.not_digit 0 1 (.int .i64 s2) (.slice A2 n2 c2))
          have HV8 := Lib.hid (HV.out.put HZ.out.not_digit 0 1 (.int .i64 s2) (.slice A2 n2 c2))
          have HU8 := Lib.hid (Up.stored HU.out HGZZ.out (.int .i64 s2) (.slice A2 n2 c2))
          go_upto_region 13 with fail
          go_region_with (fail)
          all_goals
            go_wp2
            obtain ⟨z0, z1, -, -, -⟩ := HZ8.out.facts
            refine bodyPost_ret (by simp [results, Tryz.results122, go_sem, z0, z1]; try rfl) rfl ?_
            exact ⟨_, _, rfl, ⟨some ⟨gt, 0, none⟩, xs.length, by rw [HTL.out], by rw [HTL.out]; exact Nat.le_refl _, HLM.out, by first | exact HF8.out.rdz | exact (HF8.out.up (Up.drew _)).rdz, fun b off e => by cases e; exact HGT.out⟩, by first | exact HV8.out | exact HV8.out.up (Up.drew _), by first | exact HU8.out | exact HU8.out.trans (Up.drew _)⟩
set_option maxHeartbeats 2000000 in
set_option maxRecDepth 10000 in
theorem common_any (A : Option Addr) (c : Nat) (xs : List (Int × Int)) (w : World) (hn : xs.length ≤ 1000000) (hr : RdN w A xs) (hx : ∀ p, p ∈ xs → Rng p.1 p.2) (hp : ∀ p, p ∈ xs → 0 < p.2) (ht : Tab w) :
    Calls Tryz.prog 85 #[.slice A xs.length c] w fun e w' => ∃ v1 v2, e = .returned (.tuple #[v1, v2]) ∧ RowF w w' v1 (xs.map fun p => p.1 * (lowN xs : Int).tdiv p.2) ∧ IV w' v2 (lowN xs : Nat) ∧ Up w w' := by
  have hmk : ∀ W, (Instr.makeSlice 163 (.int .i64 (xs.length : Int)) (.int .i64 (xs.length : Int))).run Tryz.prog W = .ok (.slice (some ⟨W.heap.size, 0, none⟩) xs.length xs.length) (W.alloc (.cells (madeCells zcsP.toArray (xs.length * 4)) 110)) := fun W => mkFracs xs.length (by omega) W
  have HOF := Lib.hid (fun x y W (h : Rng x y) => fracOfP_any x y W h.1 h.2.1 h.2.2.1 h.2.2.2)
  have HTP := Lib.hid (fun W A' c' (hu : Up w W) (h : RdE eltP W A' xs) => tops_any A' c' xs W hn h hx hp (ht.up hu))
  have HMD := Lib.hid (fun W => OwP.made (E := eltP) (ok := okA) zcsP_rel (fun _ _ _ => trivial) W 110 xs.length (by omega))
  clear ht hp
  go_enter Tryz.func85, Tryz.ntmps85
  go_wp2_with fail
  have HZ0 := Lib.hid ((CellZ.new w 0 none 0 0).up (Up.alloc (w.alloc (.cells #[.int .i64 0, .slice none 0 0] 108)) (.cells (madeCells zcsP.toArray (xs.length * 4)) 110)))
  have HO0 := Lib.hid (HMD.out (w.alloc (.cells #[.int .i64 0, .slice none 0 0] 108)))
  have HU0 := Lib.hid ((Up.alloc w (.cells #[.int .i64 0, .slice none 0 0] 108)).trans (Up.alloc _ (.cells (madeCells zcsP.toArray (xs.length * 4)) 110)))
  obtain ⟨wA, hwA⟩ : ∃ wA, wA = w.alloc (.cells #[.int .i64 0, .slice none 0 0] 108) := ⟨_, rfl⟩
  have HSA := Lib.hid (show w.heap.size < wA.heap.size by rw [hwA, size_alloc]; omega)
  rw [← hwA] at HZ0 HO0 HU0
  obtain ⟨g, hg⟩ : ∃ g, g = w.heap.size + 1 := ⟨_, rfl⟩
  have hgA : wA.heap.size = g := by rw [hwA, size_alloc, hg]
  rw [hgA] at HO0
  have HGG := Lib.hid (show w.heap.size ≤ g ∧ w.heap.size ≠ g by omega)
  have HGA := Lib.hid hgA
  rw [← hg, ← hwA]
  generalize hgz : w.heap.size = gz at *
  have HGZ := Lib.hid hgz
  change Hid (OwP eltP okA wA (wA.alloc (.cells (madeCells zcsP.toArray (xs.length * 4)) 110)) 110 (.slice (some ⟨g, 0, none⟩) xs.length xs.length) (List.replicate xs.length (0, 0))) at HO0
  generalize wA.alloc (.cells (madeCells zcsP.toArray (xs.length * 4)) 110) = wB at *
  clear hwA hgA hg hmk hgz HMD
  go_loopw [12] (fun i wr => ∃ k : Nat, k ≤ xs.length ∧ i = .int .i64 k ∧ Hid (OwP eltP okA wA wr 110 (.slice (some ⟨g, 0, none⟩) xs.length xs.length) (fillP xs k)) ∧ Hid (CellZ wr gz 0 none 0 0) ∧ Hid (Up w wr)) (fun i _ => xs.length - (intOf i).toNat)
  case atStart => exact ⟨0, by omega, rfl, by rw [fillP_zero]; exact HO0, HZ0, HU0⟩
  case round =>
    obtain ⟨k, hk, rfl, HO, HZ, HU⟩ := hrel
    by_cases hkl : k < xs.length
    · obtain ⟨b, off, rfl, hbb, d0, d1⟩ := (hr.up HU.out).at_ hkl
      have HR := Lib.hid (hx _ (List.getElem_mem hkl))
      have HST := Lib.hid (fillP_next xs k hkl)
      have HPL := Lib.hid (show k < (fillP xs k).length by rw [fillP_length _ _ hk]; exact hkl)
      have HXE : Hid (xs[k] = (xs[k].1, xs[k].2)) := Lib.hid rfl
      rw [HXE.out] at HST
      generalize xs[k].1 = x at *
      generalize xs[k].2 = y at *
      clear HXE
      have HUX := Lib.hid (Up.alloc wr (.cells #[.int .i64 x, .int .i64 y] 55))
      go_wp2_with fail
      refine Calls.mono (HOF.out _ _ _ HR.out) ?_
      rintro e w5 ⟨v5, rfl, hv, hu⟩
      obtain ⟨s5, A5, n5, c5, t5, F5, m5, k5, rfl, he⟩ := hv.elt (some g)
      have HU5 := Lib.hid (HUX.out.trans hu)
      have HO5 := Lib.hid (HO.out.up HU5.out)
      have HZ5 := Lib.hid (HZ.out.up HU5.out)
      have HO9 := Lib.hid (HO5.out.storeP HPL.out he)
      rw [HST.out] at HO9
      have HU9 := Lib.hid (up_put4p (HU.out.trans HU5.out) (by rw [HGZ.out]; exact HGG.out.1) (k * 4) (.int .i64 s5) (.slice A5 n5 c5) (.int .i64 t5) (.slice F5 m5 k5))
      have HZ9 : Hid (CellZ (put4c w5 g (k * 4) (.int .i64 s5) (.slice A5 n5 c5) (.int .i64 t5) (.slice F5 m5 k5)) gz 0 none 0 0) := Lib.hid ((HZ5.out.far HGG.out.2 (k * 4) (k * 4 + 1) (.int .i64 s5) (.slice A5 n5 c5)).far HGG.out.2 (k * 4 + 2) (k * 4 + 3) (.int .i64 t5) (.slice F5 m5 k5))
      obtain ⟨lt5, hfz, X1, X2, X3, X4, e0, e1, e2, e3⟩ := HO5.out.cellsP HPL.out
      have hz0 := hfz (k * 4)
      have hz1 := hfz (k * 4 + 1)
      have hz2 := hfz (k * 4 + 2)
      have hz3 := hfz (k * 4 + 3)
      have i0 : (0 : Int) ≤ (k : Int) := by omega
      have i1 : (k : Int) < (xs.length : Int) := by omega
      clear hu hv he hfz d0 d1 hbb HO HU HZ
      go_wp2_with fail
      exact ⟨⟨k + 1, by omega, by simp, HO9, HZ9, HU9⟩, by simp [intOf]; omega⟩
    · have hke : k = xs.length := by omega
      subst hke
      rw [fillP_all] at HO
      go_wp2_with fail
      refine Calls.mono (HTP.out _ _ _ HU.out HO.out.readP) ?_
      rintro e w6 ⟨v1, v2, rfl, hrow, hiv, hu⟩
      obtain ⟨A1, c1, rfl, h1, h2, h3, h4⟩ := hrow
      obtain ⟨s2, A2, n2, c2, rfl, -⟩ := hiv.open_
      have HZ6 := Lib.hid (HZ.out.up hu)
      have HZ8 := Lib.hid (HZ6.out.set s2 A2 n2 c2)
      obtain ⟨r0, r1, y0, y1, lr⟩ := HZ6.out.facts
      have HRZ := Lib.hid (And.intro h1 (And.intro h2 (And.intro (show RdZ ((w6.setCell ⟨gz, 0, none⟩ (.int .i64 s2)).setCell ⟨gz, 1, none⟩ (.slice A2 n2 c2)) A1 (xs.map fun p => p.1 * (lowN xs : Int).tdiv p.2) from h3.same (fun b off e e2 => by
        have := h4 b off e
        have h6 := HU.out.size
        have h7 := HSA.out
        have h8 := HGZ.out
        have h9 := HZ.out.lt
        omega) HZ6.out.not_digit (((SameBut.refl gz w6).set 0 (.int .i64 s2)).set 1 (.slice A2 n2 c2))) (fun b off e => Nat.le_trans HU.out.size (h4 b off e)))))
      have HV8 := Lib.hid (hiv.put HZ6.out.not_digit 0 1 (.int .i64 s2) (.slice A2 n2 c2))
      have HU8 := Lib.hid (Up.stored (HU.out.trans hu) (show w.heap.size ≤ gz by rw [HGZ.out]; exact Nat.le_refl _) (.int .i64 s2) (.slice A2 n2 c2))
      clear hu hiv h1 h2 h3 h4
      go_wp2
      obtain ⟨z0, z1, -, -, -⟩ := HZ8.out.facts
      refine bodyPost_ret (by simp [results, Tryz.results85, go_sem, z0, z1]; try rfl) rfl ?_
      exact ⟨_, _, rfl, ⟨A1, c1, by rw [List.length_map], HRZ.out.1, HRZ.out.2.1, HRZ.out.2.2.1, HRZ.out.2.2.2⟩, HV8.out, HU8.out⟩
def topsN (xs : List (Int × Int)) : List Int := xs.map fun p => p.1 * (lowN xs : Int).tdiv p.2
theorem topsN_length (xs : List (Int × Int)) : (topsN xs).length = xs.length := by unfold topsN; rw [List.length_map]
def oneOk (xs : List (Int × Int)) : Bool := (topsN xs).all limI && limI (lowN xs : Nat)
def oneF (n : Nat) (xs : List (Int × Int)) : List Int × Int := if oneOk xs then ((topsN xs).take n, (topsN xs).getD n 0) else ([], 0)
def oneK (xs : List (Int × Int)) : Int := if oneOk xs then ((lowN xs : Nat) : Int) else 0
def oneE (xs : List (Int × Int)) : Int := if oneOk xs then 0 else 3
set_option maxHeartbeats 2000000 in
set_option maxRecDepth 10000 in
theorem overOne_any (A : Option Addr) (c n : Nat) (xs : List (Int × Int)) (w : World) (hn : n ≤ 100000) (hlen : xs.length = n + 1) (hr : RdN w A xs) (hx : ∀ p, p ∈ xs → Rng p.1 p.2) (hp : ∀ p, p ∈ xs → 0 < p.2) (ht : Tab w) :
    Calls Tryz.prog 44 #[.slice A xs.length c] w fun e w' => ∃ A' c', e = .returned (.tuple #[.agg #[.slice A' (oneF n xs).1.length c', .int .i64 (oneF n xs).2], .int .i64 (oneK xs), .int .i64 (oneE xs)]) ∧ RdI w' A' (oneF n xs).1 ∧ (∀ b off, A' = some ⟨b, off, none⟩ → w.heap.size ≤ b) ∧ Up w w' := by
  have HCM := Lib.hid (fun W (hu : Up w W) => (show Calls Tryz.prog 85 #[.slice A xs.length c] W fun e w' => ∃ v1 v2, e = .returned (.tuple #[v1, v2]) ∧ RowF W w' v1 (topsN xs) ∧ IV w' v2 (lowN xs : Nat) ∧ Up W w' from common_any A c xs W (by omega) (hr.up hu) hx hp (ht.up hu)))
  have htl : (topsN xs).length = n + 1 := by rw [topsN_length, hlen]
  have HFM := Lib.hid (fun W A2 c2 (h : RdZ W A2 (topsN xs)) => rowForm_any A2 c2 n (topsN xs) W hn htl h)
  have HWT := Lib.hid (fun W v (h : IV W v (lowN xs : Nat)) (hl : limI (lowN xs : Nat) = true) => (show Calls Tryz.prog 86 #[v, .int .i64 1152921504606846976] W fun e w' => e = .returned (.tuple #[.int .i64 (lowN xs : Nat), .bool true]) ∧ Up W w' from by
    have h1 := within_any v _ 1152921504606846976 W h (by decide) (by decide)
    have h2 : within ((lowN xs : Nat) : Int) 1152921504606846976 = true := hl
    simp only [h2, if_true] at h1
    exact h1))
  have HWF := Lib.hid (fun W v (h : IV W v (lowN xs : Nat)) (hl : limI (lowN xs : Nat) = false) => (show Calls Tryz.prog 86 #[v, .int .i64 1152921504606846976] W fun e w' => e = .returned (.tuple #[.int .i64 0, .bool false]) ∧ Up W w' from by
    have h1 := within_any v _ 1152921504606846976 W h (by decide) (by decide)
    have h2 : within ((lowN xs : Nat) : Int) 1152921504606846976 = false := hl
    simp only [h2, if_false, Bool.false_eq_true] at h1
    exact h1))
  have HF0 : Hid (oneF n xs = if oneOk xs then ((topsN xs).take n, (topsN xs).getD n 0) else ([], 0)) := Lib.hid rfl
  have HK0 : Hid (oneK xs = if oneOk xs then ((lowN xs : Nat) : Int) else 0) := Lib.hid rfl
  have HE0 : Hid (oneE xs = if oneOk xs then 0 else 3) := Lib.hid rfl
  have HO0 : Hid (oneOk xs = ((topsN xs).all limI && limI (lowN xs : Nat))) := Lib.hid rfl
  have HTK : Hid (((topsN xs).take n).length = n) := Lib.hid (by rw [List.length_take, htl]; omega)
  rw [htl] at HFM
  clear hr hx hp ht
  generalize oneF n xs = q at *
  generalize oneK xs = K at *
  generalize oneE xs = E at *
  generalize oneOk xs = ok at *
  generalize lowN xs = L at *
  generalize topsN xs = T at *
  rw [hlen] at HCM ⊢
  have HTL := Lib.hid htl
  clear hlen htl
  go_enter Tryz.func44, Tryz.ntmps44
  go_wp2_with fail
  have HR0 := Lib.hid (CellF.new w none 0 0 0)
  have HUR := Lib.hid (Up.alloc w (.cells #[.slice none 0 0, .int .i64 0] 28))
  refine Calls.mono (HCM.out _ (by (repeat (first | exact Below.refl _ _ | exact Hid.out (by assumption) | refine Up.trans ?_ (Up.drew _) | refine Up.trans ?_ (Up.drewN _ _) | refine Up.trans ?_ (Up.alloc _ _) | refine Up.trans ?_ (Hid.out (by assumption)))))) ?_
  rintro e w1 ⟨v1, v2, rfl, ⟨A1, c1, rfl, h1, h2, h3, h4⟩, hv, hu⟩
  obtain ⟨s2, A2, n2, c2, rfl, -⟩ := hv.open_
  have HU1 := Lib.hid (HUR.out.trans hu)
  have HR1 := Lib.hid (HR0.out.up hu)
  have HRZ := Lib.hid h3
  have HV := Lib.hid hv
  clear hu hv h1 h2 h3 h4 HR0 HUR
  rw [HTL.out]
  go_wp2_with fail
  have HL1 := Lib.hid (CellZ.new w1 s2 A2 n2 c2)
  have HUL := Lib.hid (Up.alloc w1 (.cells #[.int .i64 s2, .slice A2 n2 c2] 108))
  refine Calls.mono (HFM.out _ _ _ (HRZ.out.up HUL.out)) ?_
  rintro e w2 ⟨⟨A4, m4, c4, x4, rfl, hff, hft⟩, hu⟩
  have st := HUL.out.trans hu
  have HL2 := Lib.hid (HL1.out.up hu)
  have HV2 := Lib.hid (HV.out.up st)
  have HR2 := Lib.hid (HR1.out.up st)
  have HU2 := Lib.hid (HU1.out.trans st)
  have HSZ := Lib.hid (HU1.out.size)
  have HUL2 := Lib.hid (HUL.out.size)
  obtain ⟨gl, hgl⟩ : ∃ gl, gl = w1.heap.size := ⟨_, rfl⟩
  rw [← hgl] at HL2 ⊢
  have HFT := Lib.hid (And.intro hff hft)
  clear hu st HL1 HUL HV HR1 HU1 hgl hff hft HRZ
  obtain ⟨l0, l1, -, -, ll⟩ := HL2.out.facts
  go_wp2_with fail
  have HF2 := Lib.hid (CellF.new w2 A4 m4 c4 x4)
  have HUF := Lib.hid (Up.alloc w2 (.cells #[.slice A4 m4 c4, .int .i64 x4] 28))
  obtain ⟨gr, hgr⟩ : ∃ gr, gr = w.heap.size := ⟨_, rfl⟩
  have HGR := Lib.hid (show w.heap.size ≤ gr by omega)
  have HGL := Lib.hid (show gr < w1.heap.size + 1 by have := HSZ.out; omega)
  rw [← hgr] at HR2 ⊢
  clear hgr
  rcases hL : limI (L : Int) with _ | _
  · have HWJ := Lib.hid (HWF.out _ _ (HV2.out.up HUF.out) hL)
    rcases hA : T.all limI with _ | _
    · obtain ⟨rfl, rfl, rfl, rfl⟩ := HFT.out.1 hA
      refine Calls.mono HWJ.out ?_
      rintro e w3 ⟨rfl, hu⟩
      have st := HUF.out.trans hu
      have HF3 := Lib.hid (HF2.out.up hu)
      have HR3 := Lib.hid (HR2.out.up st)
      have HU3 := Lib.hid (HU2.out.trans st)
      have HUS := Lib.hid st
      obtain ⟨gf, hgf⟩ : ∃ gf, gf = w2.heap.size := ⟨_, rfl⟩
      rw [← hgf] at HF3 ⊢
      clear hu st HF2 HUF HR2 HU2 HL2 HV2 hgf l0 l1 ll
      obtain ⟨r0, r1, f0, f1, lr⟩ := HR3.out.facts
      have HOK : Hid (ok = false) := Lib.hid (by rw [HO0.out, hA, hL]; rfl)
      have HP := Lib.hid (HR3.out.set none 0 0 0)
      have HUZ := Lib.hid (Up.stored HU3.out HGR.out (.slice none 0 0) (.int .i64 0))
      clear hA hL HFT
      go_wp2
      obtain ⟨z0, z1, -, -, -⟩ := HP.out.facts
      refine bodyPost_ret (by simp [results, Tryz.results44, go_sem, z0, z1]; try rfl) rfl ?_
      rw [HF0.out, HK0.out, HE0.out, HOK.out]
      exact ⟨none, 0, rfl, fun h => absurd rfl h, fun b off e => (by cases e), HUZ.out⟩
    · have hft := HFT.out.2 hA
      refine Calls.mono HWJ.out ?_
      rintro e w3 ⟨rfl, hu⟩
      have st := HUF.out.trans hu
      have HF3 := Lib.hid (HF2.out.up hu)
      have HR3 := Lib.hid (HR2.out.up st)
      have HU3 := Lib.hid (HU2.out.trans st)
      have HUS := Lib.hid st
      obtain ⟨gf, hgf⟩ : ∃ gf, gf = w2.heap.size := ⟨_, rfl⟩
      rw [← hgf] at HF3 ⊢
      clear hu st HF2 HUF HR2 HU2 HL2 HV2 hgf l0 l1 ll
      obtain ⟨r0, r1, f0, f1, lr⟩ := HR3.out.facts
      have HOK : Hid (ok = false) := Lib.hid (by rw [HO0.out, hA, hL]; rfl)
      have HP := Lib.hid (HR3.out.set none 0 0 0)
      have HUZ := Lib.hid (Up.stored HU3.out HGR.out (.slice none 0 0) (.int .i64 0))
      clear hA hL HFT
      go_wp2
      obtain ⟨z0, z1, -, -, -⟩ := HP.out.facts
      refine bodyPost_ret (by simp [results, Tryz.results44, go_sem, z0, z1]; try rfl) rfl ?_
      rw [HF0.out, HK0.out, HE0.out, HOK.out]
      exact ⟨none, 0, rfl, fun h => absurd rfl h, fun b off e => (by cases e), HUZ.out⟩
  · have HWJ := Lib.hid (HWT.out _ _ (HV2.out.up HUF.out) hL)
    rcases hA : T.all limI with _ | _
    · obtain ⟨rfl, rfl, rfl, rfl⟩ := HFT.out.1 hA
      refine Calls.mono HWJ.out ?_
      rintro e w3 ⟨rfl, hu⟩
      have st := HUF.out.trans hu
      have HF3 := Lib.hid (HF2.out.up hu)
      have HR3 := Lib.hid (HR2.out.up st)
      have HU3 := Lib.hid (HU2.out.trans st)
      have HUS := Lib.hid st
      obtain ⟨gf, hgf⟩ : ∃ gf, gf = w2.heap.size := ⟨_, rfl⟩
      rw [← hgf] at HF3 ⊢
      clear hu st HF2 HUF HR2 HU2 HL2 HV2 hgf l0 l1 ll
      obtain ⟨r0, r1, f0, f1, lr⟩ := HR3.out.facts
      have HOK : Hid (ok = false) := Lib.hid (by rw [HO0.out, hA, hL]; rfl)
      have HP := Lib.hid (HR3.out.set none 0 0 0)
      have HUZ := Lib.hid (Up.stored HU3.out HGR.out (.slice none 0 0) (.int .i64 0))
      clear hA hL HFT
      go_wp2
      obtain ⟨z0, z1, -, -, -⟩ := HP.out.facts
      refine bodyPost_ret (by simp [results, Tryz.results44, go_sem, z0, z1]; try rfl) rfl ?_
      rw [HF0.out, HK0.out, HE0.out, HOK.out]
      exact ⟨none, 0, rfl, fun h => absurd rfl h, fun b off e => (by cases e), HUZ.out⟩
    · obtain ⟨rfl, rfl, rfl, hrd, hfr⟩ := HFT.out.2 hA
      refine Calls.mono HWJ.out ?_
      rintro e w3 ⟨rfl, hu⟩
      have st := HUF.out.trans hu
      have HF3 := Lib.hid (HF2.out.up hu)
      have HR3 := Lib.hid (HR2.out.up st)
      have HU3 := Lib.hid (HU2.out.trans st)
      have HUS := Lib.hid st
      obtain ⟨gf, hgf⟩ : ∃ gf, gf = w2.heap.size := ⟨_, rfl⟩
      rw [← hgf] at HF3 ⊢
      clear hu st HF2 HUF HR2 HU2 HL2 HV2 hgf l0 l1 ll
      obtain ⟨r0, r1, f0, f1, lr⟩ := HR3.out.facts
      have HOK : Hid (ok = true) := Lib.hid (by rw [HO0.out, hA, hL]; rfl)
      have HRD := Lib.hid (hrd.up HUS.out)
      have HFR := Lib.hid hfr
      obtain ⟨y, hy⟩ : ∃ y, y = T.getD c4 0 := ⟨_, rfl⟩
      rw [← hy] at HF3 HF0 ⊢
      have HP := Lib.hid (HR3.out.set A4 c4 c4 y)
      have HUZ := Lib.hid (Up.stored HU3.out HGR.out (.slice A4 c4 c4) (.int .i64 y))
      have HNE : Hid (∀ b off, A4 = some ⟨b, off, none⟩ → b ≠ gr) := Lib.hid (fun b off e => by
        have h1 := hfr b off e
        have h2 := HGL.out
        rw [size_alloc] at h1
        omega)
      have HRP := Lib.hid ((HRD.out.put HNE.out 0 (.slice A4 c4 c4)).put HNE.out 1 (.int .i64 y))
      clear hA hL HFT hrd hfr hy
      obtain ⟨p0, p1, -, -, lp⟩ := HF3.out.facts
      go_wp2
      obtain ⟨z0, z1, -, -, -⟩ := HP.out.facts
      refine bodyPost_ret (by simp [results, Tryz.results44, go_sem, z0, z1]; try rfl) rfl ?_
      rw [HF0.out, HK0.out, HE0.out, HOK.out]
      simp only [if_true]
      rw [HTK.out]
      exact ⟨A4, c4, rfl, HRP.out, fun b off e => by have h1 := HFR.out b off e; have h2 := HSZ.out; rw [size_alloc] at h1; omega, HUZ.out⟩
def colN (fs : List (List Int × Int)) (i : Nat) : List (Int × Int) := fs.map fun f => ((rowF f).getD i 0, 1)
def sumQ (fs : List (List Int × Int)) (ms : List (Int × Int)) (i : Nat) : Rat := dotQ (colN fs i) ms
def sumsN (fs : List (List Int × Int)) (ms : List (Int × Int)) (k : Nat) : List (Int × Int) := (List.range k).map fun i => ((sumQ fs ms i).num, ((sumQ fs ms i).den : Int))
theorem sumsN_length (fs : List (List Int × Int)) (ms : List (Int × Int)) (k : Nat) : (sumsN fs ms k).length = k := by simp [sumsN]
theorem sumsN_next (fs : List (List Int × Int)) (ms : List (Int × Int)) (k : Nat) : sumsN fs ms (k + 1) = sumsN fs ms k ++ [((sumQ fs ms k).num, ((sumQ fs ms k).den : Int))] := by
  unfold sumsN
  rw [List.range_succ, List.map_append]
  rfl
def combOk (n : Nat) (fs : List (List Int × Int)) (ms : List (Int × Int)) : Bool := (List.range (n + 1)).all (fun i => fits (sumQ fs ms i)) && oneOk (sumsN fs ms (n + 1))
def combF (n : Nat) (fs : List (List Int × Int)) (ms : List (Int × Int)) : List Int × Int := if combOk n fs ms then oneF n (sumsN fs ms (n + 1)) else ([], 0)
def combK (n : Nat) (fs : List (List Int × Int)) (ms : List (Int × Int)) : Int := if combOk n fs ms then oneK (sumsN fs ms (n + 1)) else 0
def combE (n : Nat) (fs : List (List Int × Int)) (ms : List (Int × Int)) : Int := if combOk n fs ms then 0 else 3
theorem validFs_mem {n : Int} {fs : List (List Int × Int)} (h : validFs n fs = true) : ∀ f, f ∈ fs → validF n f = true := by
  simp only [validFs, Bool.and_eq_true] at h
  exact fun f hf => (List.all_eq_true.1 h.2) f hf
theorem validFs_dim {n : Int} {fs : List (List Int × Int)} (h : validFs n fs = true) : ∃ m : Nat, n = m ∧ m ≤ 8 ∧ fs.length ≤ 120 := by
  simp only [validFs, Bool.and_eq_true, decide_eq_true_eq, dimI] at h
  exact ⟨n.toNat, by omega, by omega, h.1.2⟩
theorem validF_len {n : Nat} {f : List Int × Int} (h : validF n f = true) : (rowF f).length = n + 1 := by
  simp only [validF, Bool.and_eq_true, decide_eq_true_eq] at h
  have := h.1.1.2
  simp [rowF]
  omega
theorem getD_lim {n : Int} {f : List Int × Int} (h : validF n f = true) (i : Nat) : limI ((rowF f).getD i 0) = true := by
  have hl := rowF_lim h
  rw [List.all_eq_true] at hl
  rcases getD_mem0 (rowF f) i with h0 | h0
  · rw [h0]; decide
  · exact hl _ h0
theorem colN_ok {n : Int} {fs : List (List Int × Int)} (h : validFs n fs = true) (i : Nat) : okAll (colN fs i) = true := by
  unfold okAll colN
  rw [List.all_eq_true]
  intro p hp
  obtain ⟨f, hf, rfl⟩ := List.mem_map.1 hp
  exact okNum_one (getD_lim (validFs_mem h f hf) i)
theorem colN_rng {n : Int} {fs : List (List Int × Int)} (h : validFs n fs = true) (i : Nat) : ∀ p, p ∈ colN fs i → Rng p.1 p.2 := by
  intro p hp
  obtain ⟨f, hf, rfl⟩ := List.mem_map.1 hp
  have := getD_lim (validFs_mem h f hf) i
  simp only [limI, decide_eq_true_eq] at this
  exact ⟨by omega, by omega, by omega, by omega⟩
theorem fits_rng {q : Rat} (h : fits q = true) : Rng q.num q.den := by
  unfold fits within at h
  simp at h
  have := q.den_nz
  unfold Rng
  omega
theorem colN_length (fs : List (List Int × Int)) (i : Nat) : (colN fs i).length = fs.length := by unfold colN; rw [List.length_map]
theorem combOk_not {n : Nat} {fs : List (List Int × Int)} {ms : List (Int × Int)} {k : Nat} (hk : k < n + 1) (h : fits (sumQ fs ms k) = false) : combOk n fs ms = false := by
  unfold combOk
  rw [Bool.and_eq_false_iff]
  left
  rw [List.all_eq_false]
  exact ⟨k, List.mem_range.2 hk, by simp [h]⟩
theorem comb_one {n : Nat} {fs : List (List Int × Int)} {ms : List (Int × Int)} (h : (List.range (n + 1)).all (fun i => fits (sumQ fs ms i)) = true) : combF n fs ms = oneF n (sumsN fs ms (n + 1)) ∧ combK n fs ms = oneK (sumsN fs ms (n + 1)) ∧ combE n fs ms = oneE (sumsN fs ms (n + 1)) := by
  unfold combF combK combE combOk
  rw [h]
  unfold oneF oneK oneE
  cases oneOk (sumsN fs ms (n + 1)) <;> simp
theorem sumsN_rng {n : Nat} {fs : List (List Int × Int)} {ms : List (Int × Int)} (h : (List.range (n + 1)).all (fun i => fits (sumQ fs ms i)) = true) : ∀ p, p ∈ sumsN fs ms (n + 1) → Rng p.1 p.2 ∧ 0 < p.2 := by
  intro p hp
  obtain ⟨i, hi, rfl⟩ := List.mem_map.1 hp
  refine ⟨fits_rng ((List.all_eq_true.1 h) i hi), ?_⟩
  have := (sumQ fs ms i).den_nz
  show (0 : Int) < ((sumQ fs ms i).den : Int)
  omega
set_option maxHeartbeats 4000000 in
set_option maxRecDepth 10000 in
theorem linCombine_ok (A B : Option Addr) (c d n : Nat) (fs : List (List Int × Int)) (ms : List (Int × Int)) (w : World) (hc : fs.length ≤ c) (hcm : c ≤ maxLen) (hr : RdE eltForm w A fs) (hd : ms.length ≤ d) (hdm : d ≤ maxLen) (hs : RdN w B ms)
    (hv : validFs n fs = true) (hm : okAll ms = true) (hlm : fs.length = ms.length) (hx : ∀ p, p ∈ ms → Rng p.1 p.2) (ht : Tab w) :
    Calls Tryz.prog 10 #[.int .i64 n, .slice A fs.length c, .slice B ms.length d] w fun e w' => ∃ A' c', e = .returned (.tuple #[.agg #[.slice A' (combF n fs ms).1.length c', .int .i64 (combF n fs ms).2], .int .i64 (combK n fs ms), .int .i64 (combE n fs ms)]) ∧ RdI w' A' (combF n fs ms).1 ∧ (∀ b off, A' = some ⟨b, off, none⟩ → w.heap.size ≤ b) ∧ Up w w' := by
  obtain ⟨n', hn', hn8, hf120⟩ := validFs_dim hv
  have hn : n ≤ 8 := by omega
  clear hn' hn8
  have HV := Lib.hid (fun W (hu : Up w W) => validForms_any A c n fs W (by omega) (hr.up hu))
  rw [hv] at HV
  have HP := Lib.hid (fun W (hu : Up w W) => linValidNums_any B d ms W hd hdm (hs.up hu) hx (ht.up hu))
  rw [hm] at HP
  have hmk : ∀ W, (Instr.makeSlice 23 (.int .i64 0) (.int .i64 ((n : Int) + 1))).run Tryz.prog W = .ok (.slice (some ⟨W.heap.size, 0, none⟩) 0 (n + 1)) (W.alloc (.cells (zeroNums (n + 1)) 55)) := fun W => by
    have := mkNums0 (n + 1) (by omega) W
    simpa using this
  rw [← hlm] at HP ⊢
  have HLM := Lib.hid hlm
  have HVM := Lib.hid (And.intro hv hm)
  have HCC := Lib.hid (And.intro hc hcm)
  have HDD := Lib.hid (And.intro hd hdm)
  clear hlm hv hm hc hcm hd hdm
  go_enter Tryz.func10, Tryz.ntmps10
  go_wp2_with fail
  refine Calls.mono (HV.out _ (by (repeat (first | exact Below.refl _ _ | exact Hid.out (by assumption) | refine Up.trans ?_ (Up.drew _) | refine Up.trans ?_ (Up.drewN _ _) | refine Up.trans ?_ (Up.alloc _ _) | refine Up.trans ?_ (Hid.out (by assumption)))))) ?_
  rintro e w1 ⟨rfl, hu⟩
  have HU1 := Lib.hid hu
  clear hu
  go_wp2_with fail
  refine Calls.mono (HP.out _ (by (repeat (first | exact Below.refl _ _ | exact Hid.out (by assumption) | refine Up.trans ?_ (Up.drew _) | refine Up.trans ?_ (Up.drewN _ _) | refine Up.trans ?_ (Up.alloc _ _) | refine Up.trans ?_ (Hid.out (by assumption)))))) ?_
  rintro e w2 ⟨rfl, hu⟩
  have HU2 := Lib.hid hu
  clear hu
  go_wp2_with fail
  clear hmk
  have HR2 := Lib.hid ((CellF.new w none 0 0 0).up (HU1.out.trans HU2.out))
  have HUW := Lib.hid (((Up.alloc w (.cells #[.slice none 0 0, .int .i64 0] 28)).trans HU1.out).trans HU2.out)
  have HOW := Lib.hid (OwE.madeN w2 w2 (n + 1) (by omega) (Up.refl _))
  have HUB := Lib.hid (Up.alloc w2 (.cells (zeroNums (n + 1)) 55))
  obtain ⟨g6, hg6⟩ : ∃ g6, g6 = w.heap.size := ⟨_, rfl⟩
  have HG6 := Lib.hid (show w.heap.size ≤ g6 by omega)
  rw [← hg6] at HR2 ⊢
  clear hg6 HU1 HU2
  generalize w2.alloc (.cells (zeroNums (n + 1)) 55) = wB at *
  go_loopw [9, 37] (fun v i wr => ∃ k : Nat, k ≤ n + 1 ∧ i = .int .i64 k ∧ Hid ((List.range k).all (fun i => fits (sumQ fs ms i)) = true) ∧ Hid (OwE eltN w2 wr 55 v (sumsN fs ms k)) ∧ Hid (Up w2 wr)) (fun _ i _ => n + 1 - (intOf i).toNat)
  case atStart => exact ⟨0, by omega, rfl, Lib.hid rfl, HOW, HUB⟩
  case round =>
    obtain ⟨k, hk, rfl, HFIT, HOK, HU⟩ := hrel
    by_cases hkn : k < n + 1
    · generalize wr = wo at *
      have i9 : (k : Int) < (n : Int) + 1 := by omega
      go_wp2_with fail
      go_loopw [11, 42] (fun v i wi => ∃ j : Nat, j ≤ fs.length ∧ i = .int .i64 j ∧ Hid (OwE eltN wo wi 55 v ((colN fs k).take j)) ∧ Hid (Up wo wi)) (fun _ i _ => fs.length - (intOf i).toNat)
      case atStart => exact ⟨0, by omega, rfl, Lib.hid (OwE.nil _ _ _ _), Lib.hid (Up.refl _)⟩
      case round =>
        obtain ⟨j, hj, rfl, HCOL, HUI⟩ := hrel
        by_cases hjl : j < fs.length
        · obtain ⟨b, off, B5, c5, rfl, hbb, e0, e1, h3, h4, h5⟩ := (hr.up ((HUW.out.trans HU.out).trans HUI.out)).f hjl
          have hfl : (rowF fs[j]).length = n + 1 := validF_len (validFs_mem HVM.out.1 fs[j] (List.getElem_mem hjl))
          have HNEXT : Hid ((colN fs k).take (j + 1) = (colN fs k).take j ++ [((rowF fs[j]).getD k 0, 1)]) := Lib.hid (by
            rw [List.take_succ_eq_append_getElem (by rw [colN_length]; exact hjl)]
            simp [colN])
          have HLEN : Hid (((colN fs k).take j).length ≤ 1000000000) := Lib.hid (by rw [List.length_take, colN_length]; omega)
          have hgd : (rowF fs[j]).getD k 0 = (rowF fs[j])[k]'(by omega) := by rw [List.getD_eq_getElem?_getD, List.getElem?_eq_getElem (by omega)]; rfl
          have HAT := Lib.hid (fun W (hu : Up wr W) => linAt_any B5 c5 k fs[j] W (by omega) (h5.up hu))
          rw [hgd] at HNEXT
          generalize (rowF fs[j])[k]'(by omega) = y at *
          generalize fs[j] = f at *
          clear hfl hgd h3 h4 h5
          have HUF := Lib.hid (Up.alloc wr (.cells #[.slice B5 f.1.length c5, .int .i64 f.2] 28))
          go_wp2_with fail
          refine Calls.mono (HAT.out _ HUF.out) ?_
          rintro e w3 ⟨rfl, hu⟩
          have HU3 := Lib.hid hu
          clear hu e0 e1 hbb
          go_wp2_with (at_builtin; refine wpList_pushE eltN wo rfl (.tmp 46) (.tmp 50) 23 55 rfl _ 16 Tryz.underlying23 info_numz rfl znum_nod (by decide) _ _ rfl (HCOL.out.up ((HUF.out.trans HU3.out).trans (Up.alloc _ _))) (by (repeat (first | exact Below.refl _ _ | exact Hid.out (by assumption) | refine Up.trans ?_ (Up.drew _) | refine Up.trans ?_ (Up.drewN _ _) | refine Up.trans ?_ (Up.alloc _ _) | refine Up.trans ?_ (Hid.out (by assumption))))) ⟨w3.heap.size, 0, none⟩ rfl [.int .i64 y, .int .i64 1] (y, 1) (new_cells w3 [.int .i64 y, .int .i64 1] _) rfl HLEN.out ?_; intro v' w' hown' hup')
          exact ⟨⟨j + 1, by omega, by simp, by rw [HNEXT.out]; exact Lib.hid hown', Lib.hid hup'⟩, by simp [intOf]; omega⟩
        · have hje : j = fs.length := by omega
          subst hje
          rw [List.take_of_length_le (by rw [colN_length]; exact Nat.le_refl _)] at HCOL
          obtain ⟨A5, c5, hv5, k1, k2, k3, -⟩ := HCOL.out.read (fun h => h)
          rw [colN_length] at hv5 k1
          have HLN := Lib.hid (And.intro k1 (And.intro k2 k3.n))
          rw [hv5]
          clear hv5 k1 k2 k3
          have HDOT := Lib.hid (fun W (hu : Up wr W) => (show Calls Tryz.prog 43 #[.slice A5 fs.length c5, .slice B fs.length d] W fun e w' => e = .returned (.tuple #[.agg #[.int .i64 (numX true (sumQ fs ms k)), .int .i64 (numY true (sumQ fs ms k))], .int .i64 (numE true (sumQ fs ms k))]) ∧ Up W w' from by
            have h9 := numDot_val A5 B c5 d (colN fs k) ms W (by rw [colN_length]; exact HLM.out) (by rw [colN_length]; omega) (by rw [colN_length]; exact HLN.out.1) HLN.out.2.1 HDD.out.1 HDD.out.2 (HLN.out.2.2.up hu) (hs.up ((HUW.out.trans HU.out).trans (HUI.out.trans hu))) (colN_ok HVM.out.1 k) HVM.out.2 (colN_rng HVM.out.1 k) hx (ht.up ((HUW.out.trans HU.out).trans (HUI.out.trans hu)))
            rw [colN_length, ← HLM.out] at h9
            exact h9))
          have HSN := Lib.hid (sumsN_next fs ms k)
          have HSL := Lib.hid (show (sumsN fs ms k).length ≤ 1000000000 by rw [sumsN_length]; omega)
          have HFN : Hid (fits (sumQ fs ms k) = true → (List.range (k + 1)).all (fun i => fits (sumQ fs ms i)) = true) := Lib.hid (fun h => by
            rw [List.range_succ, List.all_append, HFIT.out]; simp [h])
          have HBAD := Lib.hid (fun h => combOk_not (n := n) (fs := fs) (ms := ms) hkn h)
          generalize sumQ fs ms k = q at *
          rcases hq : fits q with _ | _
          · have HB2 := Lib.hid (HBAD.out hq)
            have HR3 := Lib.hid (HR2.out.up (HU.out.trans HUI.out))
            simp only [numX, numY, numE, hq, Bool.and_false, if_false, if_true, Bool.false_eq_true] at HDOT
            clear hq HBAD HFN
            go_wp2_with fail
            refine Calls.mono (HDOT.out _ (Up.refl _)) ?_
            rintro e w5 ⟨rfl, hu⟩
            have HU5 := Lib.hid hu
            have HR5 := Lib.hid ((HR3.out.up hu).up (Up.alloc w5 (.cells #[.int .i64 0, .int .i64 0] 55)))
            obtain ⟨r0, r1, f0, f1, lr⟩ := HR5.out.facts
            have HP := Lib.hid (HR5.out.set none 0 0 0)
            have HUZ := Lib.hid (Up.stored (((HUW.out.trans HU.out).trans (HUI.out.trans hu)).trans (Up.alloc w5 (.cells #[.int .i64 0, .int .i64 0] 55))) HG6.out (.slice none 0 0) (.int .i64 0))
            clear hu
            go_wp2
            obtain ⟨z0, z1, -, -, -⟩ := HP.out.facts
            refine bodyPost_ret (by simp [results, Tryz.results10, go_sem, z0, z1]; try rfl) rfl ?_
            unfold combF combK combE
            rw [HB2.out]
            exact ⟨none, 0, rfl, fun h => absurd rfl h, fun b off e => (by cases e), HUZ.out⟩
          · have HF2 := Lib.hid (HFN.out hq)
            simp only [numX, numY, numE, hq, Bool.and_true, if_true] at HDOT
            clear hq HBAD HFN
            go_wp2_with fail
            refine Calls.mono (HDOT.out _ (Up.refl _)) ?_
            rintro e w5 ⟨rfl, hu⟩
            have HU5 := Lib.hid hu
            have HC5 := Lib.hid (CellN.new w5 q.num q.den)
            have HUC := Lib.hid (Up.alloc w5 (.cells #[.int .i64 q.num, .int .i64 q.den] 55))
            obtain ⟨wC, hwC⟩ : ∃ wC, wC = w5.alloc (.cells #[.int .i64 q.num, .int .i64 q.den] 55) := ⟨_, rfl⟩
            clear hu
            go_upto_region 18 with fail
            rw [← hwC] at HC5 HUC ⊢
            clear hwC
            obtain ⟨o0, o1, -, -, lo⟩ := HC5.out.facts
            go_wp2_with (at_builtin; refine wpList_pushE eltN w2 rfl (.tmp 63) (.tmp 65) 23 55 rfl _ 16 Tryz.underlying23 info_numz rfl znum_nod (by decide) _ _ rfl (HOK.out.up ((HUI.out.trans HU5.out).trans (HUC.out.trans (Up.alloc _ _)))) ((HU.out.trans HUI.out).trans (HU5.out.trans (HUC.out.trans (Up.alloc _ _)))) ⟨wC.heap.size, 0, none⟩ rfl [.int .i64 q.num, .int .i64 q.den] (q.num, (q.den : Int)) (new_cells wC [.int .i64 q.num, .int .i64 q.den] _) rfl HSL.out ?_; intro v' w' hown' hup')
            exact ⟨⟨k + 1, by omega, by simp, HF2, by rw [HSN.out]; exact Lib.hid hown', Lib.hid hup'⟩, by simp [intOf]; omega⟩
    · have hke : k = n + 1 := by omega
      subst hke
      obtain ⟨A5, c5, hv5, k1, k2, k3, -⟩ := HOK.out.read (fun h => h)
      rw [sumsN_length] at hv5 k1
      have HRD := Lib.hid k3.n
      have HCO := Lib.hid (comb_one HFIT.out)
      have HRR := Lib.hid (sumsN_rng HFIT.out)
      rw [hv5]
      clear hv5 k1 k2 k3
      have HON := Lib.hid (fun W (hu : Up wr W) => (show Calls Tryz.prog 44 #[.slice A5 (n + 1) c5] W fun e w' => ∃ A' c', e = .returned (.tuple #[.agg #[.slice A' (combF n fs ms).1.length c', .int .i64 (combF n fs ms).2], .int .i64 (combK n fs ms), .int .i64 (combE n fs ms)]) ∧ RdI w' A' (combF n fs ms).1 ∧ (∀ b off, A' = some ⟨b, off, none⟩ → W.heap.size ≤ b) ∧ Up W w' from by
        have h9 := overOne_any A5 c5 n (sumsN fs ms (n + 1)) W (by omega) (by rw [sumsN_length]) (HRD.out.up hu) (fun p hp => (HRR.out p hp).1) (fun p hp => (HRR.out p hp).2) (ht.up ((HUW.out.trans HU.out).trans hu))
        rw [sumsN_length, ← HCO.out.1, ← HCO.out.2.1, ← HCO.out.2.2] at h9
        exact h9))
      have HR3 := Lib.hid (HR2.out.up HU.out)
      have HGS := Lib.hid (show g6 < wr.heap.size from HR3.out.lt)
      obtain ⟨cf, hcf⟩ : ∃ cf, cf = combF n fs ms := ⟨_, rfl⟩
      obtain ⟨ck, hck⟩ : ∃ ck, ck = combK n fs ms := ⟨_, rfl⟩
      obtain ⟨ce, hce⟩ : ∃ ce, ce = combE n fs ms := ⟨_, rfl⟩
      rw [← hcf, ← hck, ← hce] at HON
      have HCE := Lib.hid (And.intro hcf (And.intro hck hce))
      clear hcf hck hce
      have HSZ := Lib.hid ((HUW.out.trans HU.out).size)
      clear HCO HRR HRD hr hs
      go_wp2_with fail
      refine Calls.mono (HON.out _ (Up.refl _)) ?_
      rintro e w5 ⟨A6, c6, rfl, hrd, hfr, hu⟩
      have HR5 := Lib.hid (HR3.out.up hu)
      obtain ⟨r0, r1, f0, f1, lr⟩ := HR5.out.facts
      have HP := Lib.hid (HR5.out.set A6 cf.1.length c6 cf.2)
      have HUZ := Lib.hid (Up.stored ((HUW.out.trans HU.out).trans hu) HG6.out (.slice A6 cf.1.length c6) (.int .i64 cf.2))
      have HNE : Hid (∀ b off, A6 = some ⟨b, off, none⟩ → b ≠ g6) := Lib.hid (fun b off e => by have h1 := hfr b off e; have h2 := HGS.out; omega)
      have HRP := Lib.hid ((hrd.put HNE.out 0 (.slice A6 cf.1.length c6)).put HNE.out 1 (.int .i64 cf.2))
      have HFR := Lib.hid hfr
      clear hrd hfr hu
      go_wp2
      obtain ⟨z0, z1, -, -, -⟩ := HP.out.facts
      refine bodyPost_ret (by simp [results, Tryz.results10, go_sem, z0, z1]; try rfl) rfl ?_
      rw [← HCE.out.1, ← HCE.out.2.1, ← HCE.out.2.2]
      exact ⟨A6, c6, rfl, HRP.out, fun b off e => (by have h1 := HFR.out b off e; have h2 := HSZ.out; omega), HUZ.out⟩
theorem lcmR_dvd (qs : List Nat) : ∀ l m, lcmR l qs ∣ m ↔ l ∣ m ∧ ∀ q, q ∈ qs → q ∣ m := by
  induction qs with
  | nil => intro l m; simp [lcmR]
  | cons q qs ih =>
    intro l m
    rw [lcmR, ih, Nat.lcm_dvd_iff]
    simp [and_assoc]
theorem dvd_gcdR_mul (r : List Int) (k L : Nat) (h : ∀ z, z ∈ r → k ∣ z.natAbs * L) : ∀ g, k ∣ g * L → k ∣ gcdR g r * L := by
  induction r with
  | nil => exact fun g hg => hg
  | cons x xs ih =>
    refine fun g hg => ih (fun z hz => h z (List.mem_cons_of_mem _ hz)) _ ?_
    rw [← Nat.gcd_mul_right]
    exact Nat.dvd_gcd hg (h x (List.mem_cons_self ..))
theorem rat_cross {s : Rat} {k : Nat} {g : Int} (h : s * k = g) : s.num * k = g * s.den := by
  have hd : (s.den : Int) ≠ 0 := by have := s.den_nz; omega
  rw [← Rat.num_divInt_den s, show ((k : Nat) : Rat) = Rat.divInt (k : Int) 1 from int_divInt k, show ((g : Int) : Rat) = Rat.divInt g 1 from int_divInt g, Rat.divInt_mul_divInt, Rat.divInt_eq_divInt_iff (by simpa using hd) (by decide)] at h
  simpa using h
theorem comb_alike (k : Nat) (hk : 0 < k) (ps : List (Rat × Int)) (h : ∀ p, p ∈ ps → p.1 * k = p.2) :
    lcmR 1 (ps.map (·.1.den)) = k / gcdR k (ps.map (·.2)) ∧ ∀ p, p ∈ ps → p.1.num * ((lcmR 1 (ps.map (·.1.den)) / p.1.den : Nat) : Int) = p.2.tdiv (gcdR k (ps.map (·.2)) : Nat) := by
  generalize hD : gcdR k (ps.map (·.2)) = D
  have hDk : D ∣ k := hD ▸ gcdR_dvd_left _ _
  have hD0 : 0 < D := Nat.pos_of_dvd_of_pos hDk hk
  have hDg : ∀ p, p ∈ ps → (D : Int) ∣ p.2 := fun p hp => hD ▸ gcdR_dvd _ _ _ (List.mem_map_of_mem hp)
  obtain ⟨k', rfl⟩ := hDk
  have hkd : D * k' / D = k' := Nat.mul_div_cancel_left _ hD0
  have hcr : ∀ p, p ∈ ps → p.1.num * k' = p.2.tdiv D * p.1.den := fun p hp => by
    have h1 := rat_cross (h p hp)
    obtain ⟨g', hg'⟩ := hDg p hp
    have h3 : p.2.tdiv D = g' := by rw [hg', Int.mul_tdiv_cancel_left _ (by omega)]
    rw [h3]
    rw [hg', Int.natCast_mul] at h1
    refine Int.eq_of_mul_eq_mul_left (a := (D : Int)) (by omega) ?_
    rw [← Int.mul_assoc, ← Int.mul_assoc, ← h1, Int.mul_left_comm, Int.mul_assoc]
  have hden : ∀ p, p ∈ ps → p.1.den ∣ k' := fun p hp => by
    have h1 := hcr p hp
    have h2 : (p.1.den : Int) ∣ p.1.num * k' := ⟨_, h1.trans (Int.mul_comm _ _)⟩
    have h3 : p.1.den ∣ p.1.num.natAbs * k' := by
      have := Int.natAbs_dvd_natAbs.2 h2
      rwa [Int.natAbs_natCast, Int.natAbs_mul, Int.natAbs_natCast] at this
    exact (Nat.Coprime.symm p.1.reduced).dvd_of_dvd_mul_left h3
  have hL : lcmR 1 (ps.map (·.1.den)) = k' := by
    apply Nat.dvd_antisymm
    · rw [lcmR_dvd]
      refine ⟨Nat.one_dvd _, fun q hq => ?_⟩
      obtain ⟨p, hp, rfl⟩ := List.mem_map.1 hq
      exact hden p hp
    · have h1 : D * k' ∣ D * lcmR 1 (ps.map (·.1.den)) := by
        conv => rhs; rw [← hD]
        refine dvd_gcdR_mul _ _ _ (fun z hz => ?_) _ (Nat.dvd_mul_right _ _)
        obtain ⟨p, hp, rfl⟩ := List.mem_map.1 hz
        have h2 : p.1.den ∣ lcmR 1 (ps.map (·.1.den)) := ((lcmR_dvd _ 1 _).1 (Nat.dvd_refl _)).2 _ (List.mem_map_of_mem (f := fun p : Rat × Int => p.1.den) hp)
        obtain ⟨u, hu⟩ := h2
        have h3 := congrArg Int.natAbs (rat_cross (h p hp))
        rw [Int.natAbs_mul, Int.natAbs_mul, Int.natAbs_natCast, Int.natAbs_natCast] at h3
        rw [hu, ← Nat.mul_assoc, ← h3, Nat.mul_right_comm]
        exact Nat.dvd_mul_left _ _
      exact Nat.dvd_of_mul_dvd_mul_left hD0 h1
  rw [hL, hkd]
  refine ⟨rfl, fun p hp => ?_⟩
  obtain ⟨u, hu⟩ := hden p hp
  have hd0 : 0 < p.1.den := Nat.pos_of_ne_zero p.1.den_nz
  have h1 := hcr p hp
  rw [hu, Nat.mul_div_cancel_left _ hd0]
  rw [hu, Int.natCast_mul] at h1
  refine Int.eq_of_mul_eq_mul_left (a := (p.1.den : Int)) (by omega) ?_
  rw [Int.mul_left_comm, h1, Int.mul_comm]
theorem sumQ_cons (f : List Int × Int) (fs : List (List Int × Int)) (m : Int × Int) (ms : List (Int × Int)) (i : Nat) : sumQ (f :: fs) (m :: ms) i = ratOf m.1 m.2 * (((rowF f).getD i 0 : Int) : Rat) + sumQ fs ms i := by
  unfold sumQ colN
  simp only [List.map_cons, dotQ]
  rw [ratOf_one, Rat.mul_comm]
theorem rowF_split (T : List Int) (n : Nat) (h : T.length = n + 1) : rowF (T.take n, T.getD n 0) = T := by
  unfold rowF
  have h1 : T.getD n 0 = T[n] := by rw [List.getD_eq_getElem?_getD, List.getElem?_eq_getElem (by omega)]; rfl
  simp only
  rw [h1, ← List.take_succ_eq_append_getElem (by omega), List.take_of_length_le (by omega)]
set_option maxHeartbeats 1000000 in
set_option maxRecDepth 10000 in
theorem linCombine_bad1 (A B : Option Addr) (c d m k : Nat) (n : Int) (w : World)
    (HV : Hid (∀ W, Up w W → Calls Tryz.prog 40 #[.int .i64 n, .slice A m c] W fun e w' => e = .returned (.bool false) ∧ Up W w')) :
    Calls Tryz.prog 10 #[.int .i64 n, .slice A m c, .slice B k d] w fun e w' => e = .returned (.tuple #[.agg #[.slice none 0 0, .int .i64 0], .int .i64 0, .int .i64 1]) ∧ Up w w' := by
  go_enter Tryz.func10, Tryz.ntmps10
  go_wp2_with fail
  refine Calls.mono (HV.out _ (by (repeat (first | exact Below.refl _ _ | exact Hid.out (by assumption) | refine Up.trans ?_ (Up.drew _) | refine Up.trans ?_ (Up.drewN _ _) | refine Up.trans ?_ (Up.alloc _ _) | refine Up.trans ?_ (Hid.out (by assumption)))))) ?_
  rintro e w1 ⟨rfl, hu⟩
  have HU1 := Lib.hid hu
  clear hu
  have HR := Lib.hid ((CellF.new w none 0 0 0).up HU1.out)
  have HP := Lib.hid ((HR.out.set none 0 0 0).facts)
  have HUZ := Lib.hid (Up.stored ((Up.alloc w (.cells #[.slice none 0 0, .int .i64 0] 28)).trans HU1.out) (Nat.le_refl _) (.slice none 0 0) (.int .i64 0))
  obtain ⟨r0, r1, f0, f1, lr⟩ := HR.out.facts
  go_wp2
  obtain ⟨z0, z1, -, -, -⟩ := HP.out
  refine bodyPost_ret (by simp [results, Tryz.results10, go_sem, z0, z1]; try rfl) rfl ?_
  exact ⟨rfl, HUZ.out⟩
set_option maxHeartbeats 1000000 in
set_option maxRecDepth 10000 in
theorem linCombine_bad2 (A B : Option Addr) (c d m k : Nat) (n : Int) (w : World)
    (HV : Hid (∀ W, Up w W → Calls Tryz.prog 40 #[.int .i64 n, .slice A m c] W fun e w' => e = .returned (.bool true) ∧ Up W w'))
    (HN : Hid (∀ W, Up w W → Calls Tryz.prog 41 #[.slice B k d] W fun e w' => e = .returned (.bool false) ∧ Up W w')) :
    Calls Tryz.prog 10 #[.int .i64 n, .slice A m c, .slice B k d] w fun e w' => e = .returned (.tuple #[.agg #[.slice none 0 0, .int .i64 0], .int .i64 0, .int .i64 1]) ∧ Up w w' := by
  go_enter Tryz.func10, Tryz.ntmps10
  go_wp2_with fail
  refine Calls.mono (HV.out _ (by (repeat (first | exact Below.refl _ _ | exact Hid.out (by assumption) | refine Up.trans ?_ (Up.drew _) | refine Up.trans ?_ (Up.drewN _ _) | refine Up.trans ?_ (Up.alloc _ _) | refine Up.trans ?_ (Hid.out (by assumption)))))) ?_
  rintro e w1 ⟨rfl, hu⟩
  have HU1 := Lib.hid hu
  clear hu
  go_wp2_with fail
  refine Calls.mono (HN.out _ (by (repeat (first | exact Below.refl _ _ | exact Hid.out (by assumption) | refine Up.trans ?_ (Up.drew _) | refine Up.trans ?_ (Up.drewN _ _) | refine Up.trans ?_ (Up.alloc _ _) | refine Up.trans ?_ (Hid.out (by assumption)))))) ?_
  rintro e w2 ⟨rfl, hu⟩
  have HU2 := Lib.hid hu
  clear hu
  have HR := Lib.hid ((CellF.new w none 0 0 0).up (HU1.out.trans HU2.out))
  have HP := Lib.hid ((HR.out.set none 0 0 0).facts)
  have HUZ := Lib.hid (Up.stored ((Up.alloc w (.cells #[.slice none 0 0, .int .i64 0] 28)).trans (HU1.out.trans HU2.out)) (Nat.le_refl _) (.slice none 0 0) (.int .i64 0))
  obtain ⟨r0, r1, f0, f1, lr⟩ := HR.out.facts
  go_wp2
  obtain ⟨z0, z1, -, -, -⟩ := HP.out
  refine bodyPost_ret (by simp [results, Tryz.results10, go_sem, z0, z1]; try rfl) rfl ?_
  exact ⟨rfl, HUZ.out⟩
set_option maxHeartbeats 1000000 in
set_option maxRecDepth 10000 in
theorem linCombine_bad3 (A B : Option Addr) (c d m k : Nat) (n : Int) (w : World) (hmk : m ≠ k)
    (HV : Hid (∀ W, Up w W → Calls Tryz.prog 40 #[.int .i64 n, .slice A m c] W fun e w' => e = .returned (.bool true) ∧ Up W w'))
    (HN : Hid (∀ W, Up w W → Calls Tryz.prog 41 #[.slice B k d] W fun e w' => e = .returned (.bool true) ∧ Up W w')) :
    Calls Tryz.prog 10 #[.int .i64 n, .slice A m c, .slice B k d] w fun e w' => e = .returned (.tuple #[.agg #[.slice none 0 0, .int .i64 0], .int .i64 0, .int .i64 2]) ∧ Up w w' := by
  have i0 : (m : Int) ≠ (k : Int) := by omega
  go_enter Tryz.func10, Tryz.ntmps10
  go_wp2_with fail
  refine Calls.mono (HV.out _ (by (repeat (first | exact Below.refl _ _ | exact Hid.out (by assumption) | refine Up.trans ?_ (Up.drew _) | refine Up.trans ?_ (Up.drewN _ _) | refine Up.trans ?_ (Up.alloc _ _) | refine Up.trans ?_ (Hid.out (by assumption)))))) ?_
  rintro e w1 ⟨rfl, hu⟩
  have HU1 := Lib.hid hu
  clear hu
  go_wp2_with fail
  refine Calls.mono (HN.out _ (by (repeat (first | exact Below.refl _ _ | exact Hid.out (by assumption) | refine Up.trans ?_ (Up.drew _) | refine Up.trans ?_ (Up.drewN _ _) | refine Up.trans ?_ (Up.alloc _ _) | refine Up.trans ?_ (Hid.out (by assumption)))))) ?_
  rintro e w2 ⟨rfl, hu⟩
  have HU2 := Lib.hid hu
  clear hu
  have HR := Lib.hid ((CellF.new w none 0 0 0).up (HU1.out.trans HU2.out))
  have HP := Lib.hid ((HR.out.set none 0 0 0).facts)
  have HUZ := Lib.hid (Up.stored ((Up.alloc w (.cells #[.slice none 0 0, .int .i64 0] 28)).trans (HU1.out.trans HU2.out)) (Nat.le_refl _) (.slice none 0 0) (.int .i64 0))
  obtain ⟨r0, r1, f0, f1, lr⟩ := HR.out.facts
  go_wp2
  obtain ⟨z0, z1, -, -, -⟩ := HP.out
  refine bodyPost_ret (by simp [results, Tryz.results10, go_sem, z0, z1]; try rfl) rfl ?_
  exact ⟨rfl, HUZ.out⟩
theorem rowF_addF (k : Nat) (g f : List Int × Int) (q : Rat) (h : g.1.length = f.1.length) (i : Nat) : (rowF (addF k g f q)).getD i 0 = (rowF g).getD i 0 + (rowF f).getD i 0 * (q.num * ((k : Int).tdiv q.den)) := by
  have e1 : rowF (addF k g f q) = plusR (rowF g) (timesR (q.num * ((k : Int).tdiv q.den)) (rowF f)) := by
    unfold rowF addF plusR timesR
    simp only [List.map_append, List.map_cons, List.map_nil]
    rw [List.zipWith_append (by simpa using h)]
    rfl
  rw [e1, getD_zip _ _ (by unfold timesR rowF; simp [h]) i]
  congr 1
  unfold timesR
  exact getD_map0 (· * (q.num * ((k : Int).tdiv q.den))) (by simp) _ i
def totF (k : Nat) : List (List Int × Int) → List Rat → Nat → Int
  | f :: fs, q :: qs, i => (rowF f).getD i 0 * (q.num * ((k : Int).tdiv q.den)) + totF k fs qs i
  | _, _, _ => 0
theorem sumF_tot (k n : Nat) : ∀ (fs : List (List Int × Int)) (qs : List Rat) (g : List Int × Int), g.1.length = n → (∀ f, f ∈ fs → f.1.length = n) → ∀ i, (rowF ((fs.zip qs).foldl (fun g p => addF k g p.1 p.2) g)).getD i 0 = (rowF g).getD i 0 + totF k fs qs i := by
  intro fs
  induction fs with
  | nil => intro qs g _ _ i; simp [totF]
  | cons f fs ih =>
    intro qs g hg hf i
    cases qs with
    | nil => simp [totF]
    | cons q qs =>
      have hfl := hf f (List.mem_cons_self ..)
      simp only [List.zip_cons_cons, List.foldl_cons, totF]
      rw [ih qs (addF k g f q) (by simp [addF, hg, hfl]) (fun f' h' => hf f' (List.mem_cons_of_mem _ h')) i, rowF_addF k g f q (by rw [hg, hfl]), Int.add_assoc]
theorem coef_rat (k : Nat) (q : Rat) (h : q.den ∣ k) : ((q.num * ((k : Int).tdiv q.den) : Int) : Rat) = q * (k : Rat) := by
  obtain ⟨u, hu⟩ := h
  have hd := q.den_nz
  have e1 : q * ((k : Nat) : Rat) = Rat.divInt q.num q.den * ((k : Int) : Rat) := by rw [Rat.num_divInt_den, Rat.intCast_natCast]
  rw [e1, hu, Int.natCast_mul, Int.mul_tdiv_cancel_left _ (by omega), int_divInt, int_divInt ((q.den : Int) * u), Rat.divInt_mul_divInt, Rat.divInt_eq_divInt_iff (by omega) (by omega)]
  simp only [Int.mul_one]
  rw [Int.mul_left_comm, Int.mul_comm ((q.den : Int))]
theorem totF_sumQ (k : Nat) : ∀ (fs : List (List Int × Int)) (ms : List (Int × Int)), fs.length = ms.length → (∀ q, q ∈ ratsOf ms → q.den ∣ k) → ∀ i, sumQ fs ms i * (k : Rat) = ((totF k fs (ratsOf ms) i : Int) : Rat) := by
  intro fs
  induction fs with
  | nil =>
    intro ms _ _ i
    have h0 : sumQ [] ms i = 0 := by unfold sumQ colN; simp [dotQ]
    rw [h0, Rat.zero_mul]
    simp [totF]
  | cons f fs ih =>
    intro ms hl hd i
    cases ms with
    | nil => simp at hl
    | cons m ms =>
      have e0 : ratsOf (m :: ms) = ratOf m.1 m.2 :: ratsOf ms := rfl
      rw [e0] at hd ⊢
      simp only [totF]
      rw [sumQ_cons, Rat.add_mul, ih ms (by simpa using hl) (fun q hq => hd q (List.mem_cons_of_mem _ hq)) i, Rat.intCast_add, Rat.intCast_mul, coef_rat k _ (hd _ (List.mem_cons_self ..))]
      congr 1
      rw [Rat.mul_comm (ratOf m.1 m.2), Rat.mul_assoc]
theorem lcmD_dvd (qs : List Rat) : ∀ q, q ∈ qs → q.den ∣ lcmD qs := fun _ hq =>
  ((lcmR_dvd (qs.map (·.den)) 1 (lcmD qs)).1 (Nat.dvd_refl _)).2 _ (List.mem_map_of_mem (f := fun q : Rat => q.den) hq)
theorem row_range (r : List Int) (n : Nat) (h : r.length = n + 1) : (List.range (n + 1)).map (fun i => r.getD i 0) = r := by
  apply List.ext_getElem
  · simp [h]
  · intro i h1 h2
    rw [List.getElem_map, List.getElem_range, List.getD_eq_getElem?_getD, List.getElem?_eq_getElem h2]
    rfl
theorem comb_ref (n : Nat) (fs : List (List Int × Int)) (ms : List (Int × Int)) (hl : fs.length = ms.length) (hf : ∀ f, f ∈ fs → f.1.length = n) (g : List Int × Int) (hg : g = sumF n (lcmD (ratsOf ms)) fs (ratsOf ms)) (D : Nat) (hD : D = Nat.gcd (gcdR g.2.natAbs g.1) (lcmD (ratsOf ms))) :
    rowF (g.1.map (·.tdiv (D : Int)), g.2.tdiv (D : Int)) = topsN (sumsN fs ms (n + 1)) ∧ ((lcmD (ratsOf ms) : Nat) : Int).tdiv (D : Int) = (lowN (sumsN fs ms (n + 1)) : Nat) := by
  have hK := lcmD_pos (ratsOf ms)
  have hgl : g.1.length = n := by
    rw [hg]
    exact sumF_length n _ fs (ratsOf ms) (List.replicate n 0, 0) (by simp) hf
  have hrl : (rowF g).length = n + 1 := by unfold rowF; simp [hgl]
  have hz : ∀ i, (rowF (List.replicate n (0 : Int), (0 : Int))).getD i 0 = 0 := fun i => by
    rcases getD_mem0 (rowF (List.replicate n (0 : Int), (0 : Int))) i with h | h
    · exact h
    · unfold rowF at h ⊢
      rcases List.mem_append.1 h with h1 | h1
      · exact List.eq_of_mem_replicate h1
      · simpa using h1
  have hG : ∀ i, sumQ fs ms i * ((lcmD (ratsOf ms) : Nat) : Rat) = (((rowF g).getD i 0 : Int) : Rat) := fun i => by
    rw [totF_sumQ _ fs ms hl (lcmD_dvd (ratsOf ms)) i]
    congr 1
    rw [hg]
    unfold sumF
    rw [sumF_tot (lcmD (ratsOf ms)) n fs (ratsOf ms) (List.replicate n 0, 0) (by simp) hf i, hz, Int.zero_add]
  obtain ⟨c1, c2⟩ := comb_alike (lcmD (ratsOf ms)) hK ((List.range (n + 1)).map fun i => (sumQ fs ms i, (rowF g).getD i 0)) (fun p hp => by
    obtain ⟨i, -, rfl⟩ := List.mem_map.1 hp
    exact hG i)
  have e1 : ((List.range (n + 1)).map fun i => (sumQ fs ms i, (rowF g).getD i 0)).map (·.2) = rowF g := by
    rw [List.map_map]
    exact row_range (rowF g) n hrl
  have e2 : ((List.range (n + 1)).map fun i => (sumQ fs ms i, (rowF g).getD i 0)).map (·.1.den) = (sumsN fs ms (n + 1)).map fun p => p.2.natAbs := by
    unfold sumsN
    rw [List.map_map, List.map_map]
    refine List.map_congr_left fun i _ => ?_
    simp
  have e3 : gcdR (lcmD (ratsOf ms)) (rowF g) = D := by
    rw [gcdR_start, gcdR_row, hD, Nat.gcd_comm]
  rw [e1, e2, e3] at c1
  rw [e1, e2, e3] at c2
  have hlow : lcmR 1 ((sumsN fs ms (n + 1)).map fun p => p.2.natAbs) = lowN (sumsN fs ms (n + 1)) := rfl
  rw [hlow] at c1 c2
  have hDk : D ∣ lcmD (ratsOf ms) := by rw [hD]; exact Nat.gcd_dvd_right _ _
  have hD0 : 0 < D := Nat.pos_of_dvd_of_pos hDk hK
  refine ⟨?_, ?_⟩
  · have e4 : rowF (g.1.map (·.tdiv (D : Int)), g.2.tdiv (D : Int)) = (rowF g).map (·.tdiv (D : Int)) := by unfold rowF; simp
    rw [e4]
    apply List.ext_getElem
    · rw [List.length_map, hrl, topsN_length, sumsN_length]
    · intro i h1 h2
      have hi : i < n + 1 := by rw [List.length_map, hrl] at h1; exact h1
      have h3 := c2 (sumQ fs ms i, (rowF g).getD i 0) (List.mem_map_of_mem (f := fun i => (sumQ fs ms i, (rowF g).getD i 0)) (List.mem_range.2 hi))
      rw [List.getElem_map]
      have e5 : (rowF g)[i]'(by omega) = (rowF g).getD i 0 := by rw [List.getD_eq_getElem?_getD, List.getElem?_eq_getElem (by omega)]; rfl
      have hi2 : i < (sumsN fs ms (n + 1)).length := by rw [sumsN_length]; exact hi
      have e6 : (topsN (sumsN fs ms (n + 1)))[i] = (sumsN fs ms (n + 1))[i].1 * (lowN (sumsN fs ms (n + 1)) : Int).tdiv (sumsN fs ms (n + 1))[i].2 := by simp [topsN]
      have e7 : (sumsN fs ms (n + 1))[i] = ((sumQ fs ms i).num, ((sumQ fs ms i).den : Int)) := by simp [sumsN]
      rw [e5, ← h3, e6, e7]
      rfl
  · rw [c1]
    obtain ⟨u, hu⟩ := hDk
    rw [hu, Nat.mul_div_cancel_left _ hD0, Int.natCast_mul, Int.mul_tdiv_cancel_left _ (by omega)]
theorem combOk_one (n : Nat) (fs : List (List Int × Int)) (ms : List (Int × Int)) : combOk n fs ms = oneOk (sumsN fs ms (n + 1)) := by
  unfold combOk
  rcases ho : oneOk (sumsN fs ms (n + 1)) with _ | _
  · rw [Bool.and_false]
  · rw [Bool.and_true, List.all_eq_true]
    intro i hi
    unfold oneOk at ho
    rw [Bool.and_eq_true] at ho
    have hpos : ∀ p, p ∈ sumsN fs ms (n + 1) → 0 < p.2 := fun p hp => by
      obtain ⟨i, -, rfl⟩ := List.mem_map.1 hp
      have := (sumQ fs ms i).den_nz
      show (0 : Int) < ((sumQ fs ms i).den : Int)
      omega
    have hL := lowN_pos _ hpos
    have hm : ((sumQ fs ms i).num, ((sumQ fs ms i).den : Int)) ∈ sumsN fs ms (n + 1) := List.mem_map_of_mem (f := fun i => ((sumQ fs ms i).num, ((sumQ fs ms i).den : Int))) hi
    have hdv : (sumQ fs ms i).den ∣ lowN (sumsN fs ms (n + 1)) := by
      have := ((lcmR_dvd ((sumsN fs ms (n + 1)).map fun p => p.2.natAbs) 1 (lowN (sumsN fs ms (n + 1)))).1 (Nat.dvd_refl _)).2 _ (List.mem_map_of_mem (f := fun p : Int × Int => p.2.natAbs) hm)
      simpa using this
    have ht : limI ((sumQ fs ms i).num * ((lowN (sumsN fs ms (n + 1)) : Int).tdiv (sumQ fs ms i).den)) = true := (List.all_eq_true.1 ho.1) _ (List.mem_map_of_mem (f := fun p : Int × Int => p.1 * (lowN (sumsN fs ms (n + 1)) : Int).tdiv p.2) hm)
    have hl2 := ho.2
    have hd0 := Nat.pos_of_ne_zero (sumQ fs ms i).den_nz
    generalize (sumQ fs ms i) = q at *
    generalize lowN (sumsN fs ms (n + 1)) = L at *
    obtain ⟨u, rfl⟩ := hdv
    have hu : 0 < u := Nat.pos_of_mul_pos_left hL
    rw [Int.natCast_mul, Int.mul_tdiv_cancel_left _ (by omega)] at ht
    simp only [limI, decide_eq_true_eq] at ht hl2
    have h1 : q.den ≤ q.den * u := Nat.le_mul_of_pos_right _ hu
    have h2 : (q.num * (u : Int)).natAbs ≤ 1152921504606846976 := by omega
    rw [Int.natAbs_mul, Int.natAbs_natCast] at h2
    have h3 : q.num.natAbs ≤ q.num.natAbs * u := Nat.le_mul_of_pos_right _ hu
    unfold fits within
    simp only [Bool.and_eq_true, decide_eq_true_eq]
    omega
set_option maxHeartbeats 1000000 in
set_option maxRecDepth 10000 in
theorem refCombine_bad1 (A B : Option Addr) (c d m k : Nat) (n : Int) (w : World)
    (HV : Hid (∀ W, Up w W → Calls Tryz.prog 45 #[.int .i64 n, .slice A m c] W fun e w' => e = .returned (.bool false) ∧ Up W w')) :
    Calls Tryz.prog 11 #[.int .i64 n, .slice A m c, .slice B k d] w fun e w' => e = .returned (.tuple #[.agg #[.slice none 0 0, .int .i64 0], .int .i64 0, .int .i64 1]) ∧ Up w w' := by
  go_enter Tryz.func11, Tryz.ntmps11
  go_wp2_with fail
  refine Calls.mono (HV.out _ (by (repeat (first | exact Below.refl _ _ | exact Hid.out (by assumption) | refine Up.trans ?_ (Up.drew _) | refine Up.trans ?_ (Up.drewN _ _) | refine Up.trans ?_ (Up.alloc _ _) | refine Up.trans ?_ (Hid.out (by assumption)))))) ?_
  rintro e w1 ⟨rfl, hu⟩
  have HU1 := Lib.hid hu
  clear hu
  have HR := Lib.hid ((CellF.new w none 0 0 0).up HU1.out)
  have HP := Lib.hid ((HR.out.set none 0 0 0).facts)
  have HUZ := Lib.hid (Up.stored ((Up.alloc w (.cells #[.slice none 0 0, .int .i64 0] 28)).trans HU1.out) (Nat.le_refl _) (.slice none 0 0) (.int .i64 0))
  obtain ⟨r0, r1, f0, f1, lr⟩ := HR.out.facts
  go_wp2
  obtain ⟨z0, z1, -, -, -⟩ := HP.out
  refine bodyPost_ret (by simp [results, Tryz.results11, go_sem, z0, z1]; try rfl) rfl ?_
  exact ⟨rfl, HUZ.out⟩
set_option maxHeartbeats 1000000 in
set_option maxRecDepth 10000 in
theorem refCombine_bad2 (A B : Option Addr) (c d m k : Nat) (n : Int) (w : World)
    (HV : Hid (∀ W, Up w W → Calls Tryz.prog 45 #[.int .i64 n, .slice A m c] W fun e w' => e = .returned (.bool true) ∧ Up W w'))
    (HN : Hid (∀ W, Up w W → Calls Tryz.prog 46 #[.slice B k d] W fun e w' => e = .returned (.bool false) ∧ Up W w')) :
    Calls Tryz.prog 11 #[.int .i64 n, .slice A m c, .slice B k d] w fun e w' => e = .returned (.tuple #[.agg #[.slice none 0 0, .int .i64 0], .int .i64 0, .int .i64 1]) ∧ Up w w' := by
  go_enter Tryz.func11, Tryz.ntmps11
  go_wp2_with fail
  refine Calls.mono (HV.out _ (by (repeat (first | exact Below.refl _ _ | exact Hid.out (by assumption) | refine Up.trans ?_ (Up.drew _) | refine Up.trans ?_ (Up.drewN _ _) | refine Up.trans ?_ (Up.alloc _ _) | refine Up.trans ?_ (Hid.out (by assumption)))))) ?_
  rintro e w1 ⟨rfl, hu⟩
  have HU1 := Lib.hid hu
  clear hu
  go_wp2_with fail
  refine Calls.mono (HN.out _ (by (repeat (first | exact Below.refl _ _ | exact Hid.out (by assumption) | refine Up.trans ?_ (Up.drew _) | refine Up.trans ?_ (Up.drewN _ _) | refine Up.trans ?_ (Up.alloc _ _) | refine Up.trans ?_ (Hid.out (by assumption)))))) ?_
  rintro e w2 ⟨rfl, hu⟩
  have HU2 := Lib.hid hu
  clear hu
  have HR := Lib.hid ((CellF.new w none 0 0 0).up (HU1.out.trans HU2.out))
  have HP := Lib.hid ((HR.out.set none 0 0 0).facts)
  have HUZ := Lib.hid (Up.stored ((Up.alloc w (.cells #[.slice none 0 0, .int .i64 0] 28)).trans (HU1.out.trans HU2.out)) (Nat.le_refl _) (.slice none 0 0) (.int .i64 0))
  obtain ⟨r0, r1, f0, f1, lr⟩ := HR.out.facts
  go_wp2
  obtain ⟨z0, z1, -, -, -⟩ := HP.out
  refine bodyPost_ret (by simp [results, Tryz.results11, go_sem, z0, z1]; try rfl) rfl ?_
  exact ⟨rfl, HUZ.out⟩
set_option maxHeartbeats 1000000 in
set_option maxRecDepth 10000 in
theorem refCombine_bad3 (A B : Option Addr) (c d m k : Nat) (n : Int) (w : World) (hmk : m ≠ k)
    (HV : Hid (∀ W, Up w W → Calls Tryz.prog 45 #[.int .i64 n, .slice A m c] W fun e w' => e = .returned (.bool true) ∧ Up W w'))
    (HN : Hid (∀ W, Up w W → Calls Tryz.prog 46 #[.slice B k d] W fun e w' => e = .returned (.bool true) ∧ Up W w')) :
    Calls Tryz.prog 11 #[.int .i64 n, .slice A m c, .slice B k d] w fun e w' => e = .returned (.tuple #[.agg #[.slice none 0 0, .int .i64 0], .int .i64 0, .int .i64 2]) ∧ Up w w' := by
  have i0 : (m : Int) ≠ (k : Int) := by omega
  go_enter Tryz.func11, Tryz.ntmps11
  go_wp2_with fail
  refine Calls.mono (HV.out _ (by (repeat (first | exact Below.refl _ _ | exact Hid.out (by assumption) | refine Up.trans ?_ (Up.drew _) | refine Up.trans ?_ (Up.drewN _ _) | refine Up.trans ?_ (Up.alloc _ _) | refine Up.trans ?_ (Hid.out (by assumption)))))) ?_
  rintro e w1 ⟨rfl, hu⟩
  have HU1 := Lib.hid hu
  clear hu
  go_wp2_with fail
  refine Calls.mono (HN.out _ (by (repeat (first | exact Below.refl _ _ | exact Hid.out (by assumption) | refine Up.trans ?_ (Up.drew _) | refine Up.trans ?_ (Up.drewN _ _) | refine Up.trans ?_ (Up.alloc _ _) | refine Up.trans ?_ (Hid.out (by assumption)))))) ?_
  rintro e w2 ⟨rfl, hu⟩
  have HU2 := Lib.hid hu
  clear hu
  have HR := Lib.hid ((CellF.new w none 0 0 0).up (HU1.out.trans HU2.out))
  have HP := Lib.hid ((HR.out.set none 0 0 0).facts)
  have HUZ := Lib.hid (Up.stored ((Up.alloc w (.cells #[.slice none 0 0, .int .i64 0] 28)).trans (HU1.out.trans HU2.out)) (Nat.le_refl _) (.slice none 0 0) (.int .i64 0))
  obtain ⟨r0, r1, f0, f1, lr⟩ := HR.out.facts
  go_wp2
  obtain ⟨z0, z1, -, -, -⟩ := HP.out
  refine bodyPost_ret (by simp [results, Tryz.results11, go_sem, z0, z1]; try rfl) rfl ?_
  exact ⟨rfl, HUZ.out⟩
set_option maxHeartbeats 4000000 in
set_option maxRecDepth 10000 in
theorem linCombinesLaw_of (A B : Option Addr) (c d : Nat) (n : Int) (fs : List (List Int × Int)) (ms : List (Int × Int)) (w : World) (hc : fs.length ≤ c) (hcm : c ≤ maxLen) (hr : RdE eltForm w A fs) (hd : ms.length ≤ d) (hdm : d ≤ maxLen) (ht : Tab w) (q : List Int × Int) (K E : Int) (hql : q.1.length ≤ 8)
    (h1 : ∀ W, Up w W → Calls Tryz.prog 10 #[.int .i64 n, .slice A fs.length c, .slice B ms.length d] W fun e w' => ∃ A' c', e = .returned (.tuple #[.agg #[.slice A' q.1.length c', .int .i64 q.2], .int .i64 K, .int .i64 E]) ∧ RdI w' A' q.1 ∧ (∀ b off, A' = some ⟨b, off, none⟩ → W.heap.size ≤ b) ∧ Up W w')
    (h2 : ∀ W, Up w W → Calls Tryz.prog 11 #[.int .i64 n, .slice A fs.length c, .slice B ms.length d] W fun e w' => ∃ A' c', e = .returned (.tuple #[.agg #[.slice A' q.1.length c', .int .i64 q.2], .int .i64 K, .int .i64 E]) ∧ RdI w' A' q.1 ∧ Up W w') :
    Calls Tryz.prog 3 #[.int .i64 n, .slice A fs.length c, .slice B ms.length d] w fun e w' => e = .returned (.bool true) ∧ Up w w' := by
  have H1 := Lib.hid h1
  have H2 := Lib.hid h2
  have hl1 := len_le hc hcm
  have hl2 := len_le hd hdm
  have HFW := Lib.hid (fun W (hu : Up w W) => few_all A c fs W hl1 (hr.up hu))
  have HAW := Lib.hid (fun W (hu : Up w W) => linAwake_any W (ht.up hu))
  have HSF := Lib.hid (fun A1 A2 c1 c2 W (h1 : RdI W A1 q.1) (h2 : RdI W A2 q.1) => sameForm_any A1 A2 c1 c2 q q W (by omega) (by omega) h1 h2)
  rw [show decide (q = q) = true from by simp] at HSF
  generalize fewF fs = few at *
  generalize q.1.length = ql at *
  clear h1 h2 hr ht hc hcm hd hdm
  go_enter Tryz.func3, Tryz.ntmps3
  go_wp2_with fail
  refine Calls.mono (HFW.out _ (by (repeat (first | exact Below.refl _ _ | exact Hid.out (by assumption) | refine Up.trans ?_ (Up.drew _) | refine Up.trans ?_ (Up.drewN _ _) | refine Up.trans ?_ (Up.alloc _ _) | refine Up.trans ?_ (Hid.out (by assumption)))))) ?_
  rintro e0 w1 ⟨rfl, hu⟩
  have HU1 := Lib.hid hu
  clear hu
  cases few
  · go_wp2_with fail
    refine Calls.mono (HAW.out _ (by (repeat (first | exact Below.refl _ _ | exact Hid.out (by assumption) | refine Up.trans ?_ (Up.drew _) | refine Up.trans ?_ (Up.drewN _ _) | refine Up.trans ?_ (Up.alloc _ _) | refine Up.trans ?_ (Hid.out (by assumption)))))) ?_
    rintro e0 w2 ⟨rfl, hu⟩
    go_wp2
    go_ret
    exact ⟨rfl, HU1.out.trans hu⟩
  by_cases h140 : ms.length ≤ 140
  · have i0 : ¬ (140 : Int) < (ms.length : Int) := by omega
    clear h140
    go_wp2_with fail
    refine Calls.mono (H1.out _ (by (repeat (first | exact Below.refl _ _ | exact Hid.out (by assumption) | refine Up.trans ?_ (Up.drew _) | refine Up.trans ?_ (Up.drewN _ _) | refine Up.trans ?_ (Up.alloc _ _) | refine Up.trans ?_ (Hid.out (by assumption)))))) ?_
    rintro e0 w3 ⟨A3, c3, rfl, hrd, -, hu⟩
    have HQ3 := Lib.hid hrd
    have HU3 := Lib.hid (HU1.out.trans hu)
    clear hu hrd HU1
    have HP3 := Lib.hid (CellF.new w3 A3 ql c3 q.2)
    have HUP := Lib.hid (Up.alloc w3 (.cells #[.slice A3 ql c3, .int .i64 q.2] 28))
    go_wp2_with fail
    refine Calls.mono (H2.out _ (HU3.out.trans HUP.out)) ?_
    rintro e0 w4 ⟨A4, c4, rfl, hrd, hu⟩
    have HP4 := Lib.hid (HP3.out.up hu)
    have HQ4 := Lib.hid (HQ3.out.up (HUP.out.trans hu))
    have HR4 := Lib.hid hrd
    have HU4 := Lib.hid (HU3.out.trans (HUP.out.trans hu))
    obtain ⟨gp, hgp⟩ : ∃ gp, gp = w3.heap.size := ⟨_, rfl⟩
    rw [← hgp] at HP4 ⊢
    clear hu hrd hgp HP3 HUP HU3 HQ3
    go_upto_region 5 with fail
    have HQ5 := Lib.hid (CellF.new w4 A4 ql c4 q.2)
    have HUQ := Lib.hid (Up.alloc w4 (.cells #[.slice A4 ql c4, .int .i64 q.2] 28))
    obtain ⟨wQ, hwQ⟩ : ∃ wQ, wQ = w4.alloc (.cells #[.slice A4 ql c4, .int .i64 q.2] 28) := ⟨_, rfl⟩
    obtain ⟨gq, hgq⟩ : ∃ gq, gq = w4.heap.size := ⟨_, rfl⟩
    rw [← hwQ] at HQ5 HUQ ⊢
    rw [← hgq] at HQ5 ⊢
    have HP5 := Lib.hid (HP4.out.up HUQ.out)
    have HRa := Lib.hid (HQ4.out.up HUQ.out)
    have HRb := Lib.hid (HR4.out.up HUQ.out)
    have HU5 := Lib.hid (HU4.out.trans HUQ.out)
    clear hwQ hgq HUQ HU4 HP4 HQ4 HR4 H1 H2
    obtain ⟨r0, r1, -, -, lr⟩ := HP5.out.facts
    obtain ⟨q0, q1, -, -, lq⟩ := HQ5.out.facts
    go_wp2_with fail
    refine Calls.mono (HSF.out _ _ _ _ _ HRa.out HRb.out) ?_
    rintro e0 w6 ⟨rfl, hu⟩
    have HU6 := Lib.hid (HU5.out.trans hu)
    clear hu r0 r1 lr q0 q1 lq
    go_wp2_with fail
    refine Calls.mono (HAW.out _ HU6.out) ?_
    rintro e0 w7 ⟨rfl, hu⟩
    go_wp2
    go_ret
    exact ⟨rfl, HU6.out.trans hu⟩
  · have i0 : (140 : Int) < (ms.length : Int) := by omega
    clear h140
    go_wp2_with fail
    refine Calls.mono (HAW.out _ (by (repeat (first | exact Below.refl _ _ | exact Hid.out (by assumption) | refine Up.trans ?_ (Up.drew _) | refine Up.trans ?_ (Up.drewN _ _) | refine Up.trans ?_ (Up.alloc _ _) | refine Up.trans ?_ (Hid.out (by assumption)))))) ?_
    rintro e0 w2 ⟨rfl, hu⟩
    go_wp2
    go_ret
    exact ⟨rfl, HU1.out.trans hu⟩
end Go.Proofs.YtacbjbnocepnaaaGreatDoor

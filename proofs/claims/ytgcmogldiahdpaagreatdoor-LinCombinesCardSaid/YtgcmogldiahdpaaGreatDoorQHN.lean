/- Contract of the least common denominator of a list of numbers. -/
import Derived.Test.YtgcmogldiahdpaaGreatDoorQHF
import Derived.Test.YtgcmogldiahdpaaGreatDoorQGQ
import Derived.Deep.RegionLawGrows
namespace Go.Proofs.YtgcmogldiahdpaaGreatDoor
open Go.RowKit Fm
/-- The least common multiple of l and the lower numbers. -/
def lcmR : Nat → List Nat → Nat
  | l, [] => l
  | l, q :: qs => lcmR (Nat.lcm l q) qs
theorem lcmR_append (qs rs : List Nat) : ∀ l, lcmR l (qs ++ rs) = lcmR (lcmR l qs) rs := by
  induction qs with
  | nil => intro l; rfl
  | cons q qs ih => intro l; exact ih _
theorem lcmR_pos (qs : List Nat) (h : ∀ q, q ∈ qs → 0 < q) : ∀ l, 0 < l → 0 < lcmR l qs := by
  induction qs with
  | nil => exact fun l hl => hl
  | cons q qs ih => exact fun l hl => ih (fun x hx => h x (List.mem_cons_of_mem _ hx)) _ (Nat.lcm_pos hl (h q (List.mem_cons_self ..)))
/-- The least common multiple of the lower numbers. -/
def lowN (xs : List (Int × Int)) : Nat := lcmR 1 (xs.map fun p => p.2.natAbs)
theorem lowN_next (xs : List (Int × Int)) (k : Nat) (hk : k < xs.length) : lowN (xs.take (k + 1)) = Nat.lcm (lowN (xs.take k)) xs[k].2.natAbs := by
  unfold lowN
  rw [List.take_succ_eq_append_getElem hk, List.map_append, lcmR_append]
  rfl
theorem lowN_pos (xs : List (Int × Int)) (h : ∀ p, p ∈ xs → 0 < p.2) : 0 < lowN xs := by
  refine lcmR_pos _ (fun q hq => ?_) 1 (by decide)
  obtain ⟨p, hp, rfl⟩ := List.mem_map.1 hq
  have := h p hp
  omega
theorem lcm_int {l x : Nat} (hl : 0 < l) : ((l : Int).tdiv (Int.gcd l x : Nat)) * x = (Nat.lcm l x : Nat) := by
  have hd : Nat.gcd l x ∣ l := Nat.gcd_dvd_left l x
  have hg : 0 < Nat.gcd l x := Nat.gcd_pos_of_pos_left _ hl
  obtain ⟨m, hm⟩ := hd
  have e1 : Int.gcd (l : Int) (x : Int) = Nat.gcd l x := by simp [Int.gcd]
  have e2 : (l : Int) = (Nat.gcd l x : Nat) * (m : Nat) := by rw [← Int.natCast_mul, ← hm]
  rw [e1]
  conv => lhs; rw [e2]
  rw [Int.mul_tdiv_cancel_left _ (by omega), Nat.lcm]
  have e3 : l * x / Nat.gcd l x = m * x := by
    conv => lhs; lhs; rw [hm, Nat.mul_assoc]
    exact Nat.mul_div_cancel_left _ hg
  rw [e3, Int.natCast_mul]
theorem lowN_bl (xs : List (Int × Int)) (hx : ∀ p, p ∈ xs → Rng p.1 p.2) (hp : ∀ p, p ∈ xs → 0 < p.2) : ∀ k, k ≤ xs.length → bl ((lowN (xs.take k) : Nat) : Int) ≤ 2 * k + 1 := by
  intro k
  induction k with
  | zero => intro _; rw [List.take_zero]; exact Nat.le_trans (show bl ((lowN [] : Nat) : Int) ≤ 1 from digs_length_le (B := 4294967296) (k := 1) (by omega) (by decide)) (by omega)
  | succ k ih =>
    intro hk
    have h1 := ih (by omega)
    rw [lowN_next xs k (by omega)]
    have hl := lowN_pos (xs.take k) (fun p h => hp p (List.mem_of_mem_take h))
    have hR := hx _ (List.getElem_mem (show k < xs.length by omega))
    have h0 := hp _ (List.getElem_mem (show k < xs.length by omega))
    rw [← lcm_int hl]
    refine bl_mul (bl_tdiv h1) (l := 2) ?_ (by omega)
    refine bl_small ?_
    unfold Rng at hR
    omega
theorem RowB.far {w : World} {g g' : Nat} {zs : List Int} (h : RowB w g zs) (hne : g ≠ g') (hd : ∀ j x : Nat, w.cell? ⟨g', j, none⟩ ≠ some (.int .u32 (x : Int))) (o1 o2 : Nat) (u v : Value) : RowB ((w.setCell ⟨g', o1, none⟩ u).setCell ⟨g', o2, none⟩ v) g zs := by
  obtain ⟨arr, h1, h2, h3⟩ := h
  refine ⟨arr, ((Below.heap_setCell _ ⟨g', o2, none⟩ v g hne).trans (Below.heap_setCell w ⟨g', o1, none⟩ u g hne)).trans h1, h2, fun i hi => ?_⟩
  obtain ⟨s, A, n, c, e1, e2, e3⟩ := h3 i hi
  exact ⟨s, A, n, c, e1, e2, e3.put hd o1 o2 u v⟩
theorem mkInts2 (n : Nat) (hn : n ≤ 4294967296) (w : World) : (Instr.makeSlice 111 (.int .i64 (n : Int)) (.int .i64 (n : Int))).run Tryz.prog w =
    .ok (.slice (some ⟨w.heap.size, 0, none⟩) n n) (w.alloc (.cells (zeroRow n) 95)) := by
  obtain ⟨i0, hi, hz0, hz1, hz2⟩ := info_parts info_int
  have h := run_make (P := Tryz.prog) w 111 95 i0 (.agg #[.int .i64 0, .slice none 0 0]) Tryz.underlying111 hi hz0 .i64 .i64 n n (by omega) (by omega) (by rw [hz2]; omega) (by omega)
  rw [h, hz1]; simp only [Int.toNat_natCast, zeroRow]
set_option maxHeartbeats 2000000 in
set_option maxRecDepth 10000 in
theorem common_any (A : Option Addr) (c : Nat) (xs : List (Int × Int)) (w : World) (hn : xs.length ≤ 1000000) (hr : RdN w A xs) (hx : ∀ p, p ∈ xs → Rng p.1 p.2) (hp : ∀ p, p ∈ xs → 0 < p.2) (ht : Tab w) :
    Calls Tryz.prog 144 #[.slice A xs.length c] w fun e w' => ∃ v1 v2, e = .returned (.tuple #[v1, v2]) ∧ RowF w w' v1 (xs.map fun p => p.1 * (lowN xs : Int).tdiv p.2) ∧ IV w' v2 (lowN xs : Nat) ∧ Up w w' := by
  have hmk : ∀ W, (Instr.makeSlice 111 (.int .i64 (xs.length : Int)) (.int .i64 (xs.length : Int))).run Tryz.prog W = .ok (.slice (some ⟨W.heap.size, 0, none⟩) xs.length xs.length) (W.alloc (.cells (zeroRow xs.length) 95)) := fun W => mkInts2 xs.length (by omega) W
  have HOF := Lib.hid (fun n W (h1 : -9223372036854775808 ≤ n) (h2 : n ≤ 9223372036854775807) => of_any n W h1 h2)
  have HBL := Lib.hid (lowN_bl xs hx hp)
  have HLP := Lib.hid (fun k => lowN_pos (xs.take k) (fun p h => hp p (List.mem_of_mem_take h)))
  have HT := Lib.hid ht
  clear ht
  go_enter Tryz.func144, Tryz.ntmps144
  go_wp2_with fail
  refine Calls.mono (HOF.out _ _ (by decide) (by decide)) ?_
  rintro e w1 ⟨v1, rfl, hv, hu⟩
  obtain ⟨s1, A1, n1, c1, rfl, -⟩ := hv.open_
  have HU1 := Lib.hid hu
  have HV1 := Lib.hid hv
  clear hu hv
  go_wp2_with fail
  have HZ2 := Lib.hid (((CellZ.new w 0 none 0 0).up HU1.out).up (Up.alloc w1 (.cells #[.int .i64 s1, .slice A1 n1 c1] 95)))
  have HC2 := Lib.hid (CellZ.new w1 s1 A1 n1 c1)
  have HV2 := Lib.hid (HV1.out.up (Up.alloc w1 (.cells #[.int .i64 s1, .slice A1 n1 c1] 95)))
  have HU2 := Lib.hid (((Up.alloc w _).trans HU1.out).trans (Up.alloc w1 (.cells #[.int .i64 s1, .slice A1 n1 c1] 95)))
  obtain ⟨g0, hg0⟩ : ∃ g0, g0 = w1.heap.size := ⟨_, rfl⟩
  have HG0 := Lib.hid (show w.heap.size ≤ g0 by have := ((Up.alloc w _).trans HU1.out).size; omega)
  have HZN := Lib.hid (show w.heap.size ≠ g0 by have h1 := HU1.out.size; rw [size_alloc] at h1; omega)
  rw [← hg0] at HC2 ⊢
  obtain ⟨gz, hgz⟩ : ∃ gz, gz = w.heap.size := ⟨_, rfl⟩
  have HGZZ := Lib.hid (show w.heap.size ≤ gz by omega)
  rw [← hgz] at HZ2 HZN ⊢
  clear hgz
  generalize w1.alloc (.cells #[.int .i64 s1, .slice A1 n1 c1] 95) = wB at *
  clear HV1 HU1 hg0
  go_loopw [14] (fun i wr => ∃ k : Nat, k ≤ xs.length ∧ i = .int .i64 k ∧ ∃ s A1 n1 c1, Hid (CellZ wr gz 0 none 0 0) ∧ Hid (CellZ wr g0 s A1 n1 c1) ∧ Hid (IV wr (.agg #[.int .i64 s, .slice A1 n1 c1]) (lowN (xs.take k) : Nat)) ∧ Hid (Up w wr)) (fun i _ => xs.length - (intOf i).toNat)
  case atStart => exact ⟨0, by omega, rfl, _, _, _, _, HZ2, HC2, HV2, HU2⟩
  case round =>
    obtain ⟨k, hk, rfl, s2, A2, n2, c2, HZ, HC, HV, HU⟩ := hrel
    by_cases hkl : k < xs.length
    · obtain ⟨b, off, rfl, hbb, d0, d1⟩ := (hr.up HU.out).at_ hkl
      have hR := hx _ (List.getElem_mem hkl)
      have hP := hp _ (List.getElem_mem hkl)
      have hN := lowN_next xs k hkl
      have HB := Lib.hid (HBL.out k (by omega))
      have HL0 := Lib.hid (HLP.out k)
      generalize xs[k].1 = x at *
      generalize xs[k].2 = y at *
      generalize lowN (xs.take k) = l at *
      unfold Rng at hR
      obtain ⟨Y, rfl⟩ : ∃ Y : Nat, y = (Y : Int) := ⟨y.toNat, by omega⟩
      have HN : Hid (((l : Nat) : Int).tdiv (Int.gcd (l : Nat) (Y : Nat) : Nat) * (Y : Nat) = (lowN (xs.take (k + 1)) : Nat)) := Lib.hid (by rw [hN, Int.natAbs_natCast]; exact lcm_int HL0.out)
      have HY2 := Lib.hid (show bl ((Y : Nat) : Int) ≤ 2 from bl_small (by omega))
      have HOY := Lib.hid (fun W => HOF.out (Y : Nat) W (by omega) (by omega))
      have HGZ := Lib.hid (show ((Int.gcd ((l : Nat) : Int) (Y : Nat) : Nat) : Int) ≠ 0 from by have h1 := HL0.out; have h2 := Int.gcd_pos_of_ne_zero_left (Y : Int) (show ((l : Nat) : Int) ≠ 0 by omega); omega)
      have HBK := Lib.hid (show bl ((l : Nat) : Int) ≤ 67108860 by have := HB.out; omega)
      have HGC := Lib.hid (fun W u v (h1 : IV W u (l : Nat)) (h2 : IV W v (Y : Nat)) (hu : Up w W) => intGcd_any u v _ _ W h1 h2 (Nat.le_trans HBK.out (by omega)) (Nat.le_trans HY2.out (by omega)) (HT.out.up hu))
      have HQU := Lib.hid (fun W u v (h1 : IV W u (l : Nat)) (h2 : IV W v (Int.gcd ((l : Nat) : Int) (Y : Nat) : Nat)) => intQuo_any u v _ _ W h1 h2 (Nat.le_trans HBK.out (by omega)) HGZ.out)
      have HTM := Lib.hid (fun W u v (h1 : IV W u (((l : Nat) : Int).tdiv (Int.gcd ((l : Nat) : Int) (Y : Nat) : Nat))) (h2 : IV W v (Y : Nat)) => intTimes_any u v _ _ W h1 h2 (Nat.le_trans (bl_tdiv HBK.out) (by omega)) (Nat.le_trans HY2.out (by omega)))
      rw [HN.out] at HTM
      clear hR hP hN
      go_wp2_with fail
      refine Calls.mono (HOY.out _) ?_
      rintro e w3 ⟨v3, rfl, hv, hu⟩
      obtain ⟨s3, A3, n3, c3, rfl, -⟩ := hv.open_
      have HU3 := Lib.hid hu
      have HV3 := Lib.hid hv
      clear hu hv d0 d1 hbb
      go_upto_region 6 with fail
      have HU4 := Lib.hid (show Up w w3 from ((HU.out.trans (Up.alloc _ _)).trans HU3.out))
      have HC3 := Lib.hid (HC.out.up ((Up.alloc _ _).trans HU3.out))
      have HZ3 := Lib.hid (HZ.out.up ((Up.alloc _ _).trans HU3.out))
      have HV4 := Lib.hid (HV.out.up ((Up.alloc _ _).trans HU3.out))
      have HX3 := Lib.hid (CellZ.new w3 s3 A3 n3 c3)
      have HUX := Lib.hid (Up.alloc w3 (.cells #[.int .i64 s3, .slice A3 n3 c3] 95))
      obtain ⟨wX, hwX⟩ : ∃ wX, wX = w3.alloc (.cells #[.int .i64 s3, .slice A3 n3 c3] 95) := ⟨_, rfl⟩
      obtain ⟨g7, hg7⟩ : ∃ g7, g7 = w3.heap.size := ⟨_, rfl⟩
      have HN7 := Lib.hid (show g0 ≠ g7 by have := HC3.out.lt; omega)
      rw [← hwX] at HX3 HUX ⊢
      rw [← hg7] at HX3 ⊢
      clear hwX hg7
      obtain ⟨z0, z1, y0, y1, lz⟩ := (HC3.out.up HUX.out).facts
      obtain ⟨t0, t1, -, -, lt⟩ := HX3.out.facts
      go_region_law
        ((first
          | (go_simp
             go_at_call 118
             refine Calls.mono (HGC.out _ _ _ (HV4.out.up (by (repeat (first | exact Below.refl _ _ | exact Go.RowKit.Hid.out (by assumption) | refine Up.trans ?_ (Up.drew _) | refine Up.trans ?_ (Up.drewN _ _) | refine Up.trans ?_ (Up.alloc _ _) | refine Up.trans ?_ (Go.RowKit.Hid.out (by assumption)))))) (HV3.out.up (by (repeat (first | exact Below.refl _ _ | exact Go.RowKit.Hid.out (by assumption) | refine Up.trans ?_ (Up.drew _) | refine Up.trans ?_ (Up.drewN _ _) | refine Up.trans ?_ (Up.alloc _ _) | refine Up.trans ?_ (Go.RowKit.Hid.out (by assumption)))))) (by (repeat (first | exact Below.refl _ _ | exact Go.RowKit.Hid.out (by assumption) | refine Up.trans ?_ (Up.drew _) | refine Up.trans ?_ (Up.drewN _ _) | refine Up.trans ?_ (Up.alloc _ _) | refine Up.trans ?_ (Go.RowKit.Hid.out (by assumption)))))) ?_
             rintro e w4 ⟨v4, rfl, hv, hu⟩
             obtain ⟨s4, A4, n4, c4, rfl, -⟩ := hv.open_
             have HU5 := Lib.hid hu
             have HV5 := Lib.hid hv
             obtain ⟨z0, z1, y0, y1, lz⟩ := (HC3.out.up (w' := w4) (by (repeat (first | exact Below.refl _ _ | exact Go.RowKit.Hid.out (by assumption) | refine Up.trans ?_ (Up.drew _) | refine Up.trans ?_ (Up.drewN _ _) | refine Up.trans ?_ (Up.alloc _ _) | refine Up.trans ?_ (Go.RowKit.Hid.out (by assumption)))))).facts
             obtain ⟨t0, t1, -, -, lt⟩ := (HX3.out.up (w' := w4) (by (repeat (first | exact Below.refl _ _ | exact Go.RowKit.Hid.out (by assumption) | refine Up.trans ?_ (Up.drew _) | refine Up.trans ?_ (Up.drewN _ _) | refine Up.trans ?_ (Up.alloc _ _) | refine Up.trans ?_ (Go.RowKit.Hid.out (by assumption)))))).facts
             clear hu hv)
          | (go_simp
             go_at_call 136
             refine Calls.mono (HQU.out _ _ _ (HV4.out.up (by (repeat (first | exact Below.refl _ _ | exact Go.RowKit.Hid.out (by assumption) | refine Up.trans ?_ (Up.drew _) | refine Up.trans ?_ (Up.drewN _ _) | refine Up.trans ?_ (Up.alloc _ _) | refine Up.trans ?_ (Go.RowKit.Hid.out (by assumption)))))) (HV5.out.up (by (repeat (first | exact Below.refl _ _ | exact Go.RowKit.Hid.out (by assumption) | refine Up.trans ?_ (Up.drew _) | refine Up.trans ?_ (Up.drewN _ _) | refine Up.trans ?_ (Up.alloc _ _) | refine Up.trans ?_ (Go.RowKit.Hid.out (by assumption))))))) ?_
             rintro e w5 ⟨v5, rfl, hv, hu⟩
             obtain ⟨s5, A5, n5, c5, rfl, -⟩ := hv.open_
             have HU6 := Lib.hid hu
             have HV6 := Lib.hid hv
             obtain ⟨z0, z1, y0, y1, lz⟩ := (HC3.out.up (w' := w5) (by (repeat (first | exact Below.refl _ _ | exact Go.RowKit.Hid.out (by assumption) | refine Up.trans ?_ (Up.drew _) | refine Up.trans ?_ (Up.drewN _ _) | refine Up.trans ?_ (Up.alloc _ _) | refine Up.trans ?_ (Go.RowKit.Hid.out (by assumption)))))).facts
             obtain ⟨t0, t1, -, -, lt⟩ := (HX3.out.up (w' := w5) (by (repeat (first | exact Below.refl _ _ | exact Go.RowKit.Hid.out (by assumption) | refine Up.trans ?_ (Up.drew _) | refine Up.trans ?_ (Up.drewN _ _) | refine Up.trans ?_ (Up.alloc _ _) | refine Up.trans ?_ (Go.RowKit.Hid.out (by assumption)))))).facts
             clear hu hv)
          | (go_simp
             go_at_call 133
             refine Calls.mono (HTM.out _ _ _ (HV6.out.up (by (repeat (first | exact Below.refl _ _ | exact Go.RowKit.Hid.out (by assumption) | refine Up.trans ?_ (Up.drew _) | refine Up.trans ?_ (Up.drewN _ _) | refine Up.trans ?_ (Up.alloc _ _) | refine Up.trans ?_ (Go.RowKit.Hid.out (by assumption)))))) (HV3.out.up (by (repeat (first | exact Below.refl _ _ | exact Go.RowKit.Hid.out (by assumption) | refine Up.trans ?_ (Up.drew _) | refine Up.trans ?_ (Up.drewN _ _) | refine Up.trans ?_ (Up.alloc _ _) | refine Up.trans ?_ (Go.RowKit.Hid.out (by assumption))))))) ?_
             rintro e w6 ⟨v6, rfl, hv, hu⟩
             obtain ⟨s6, A6, n6, c6, rfl, -⟩ := hv.open_
             have HU7 := Lib.hid hu
             have HV7 := Lib.hid hv
             obtain ⟨z0, z1, y0, y1, lz⟩ := (HC3.out.up (w' := w6) (by (repeat (first | exact Below.refl _ _ | exact Go.RowKit.Hid.out (by assumption) | refine Up.trans ?_ (Up.drew _) | refine Up.trans ?_ (Up.drewN _ _) | refine Up.trans ?_ (Up.alloc _ _) | refine Up.trans ?_ (Go.RowKit.Hid.out (by assumption)))))).facts
             obtain ⟨t0, t1, -, -, lt⟩ := (HX3.out.up (w' := w6) (by (repeat (first | exact Below.refl _ _ | exact Go.RowKit.Hid.out (by assumption) | refine Up.trans ?_ (Up.drew _) | refine Up.trans ?_ (Up.drewN _ _) | refine Up.trans ?_ (Up.alloc _ _) | refine Up.trans ?_ (Go.RowKit.Hid.out (by assumption)))))).facts
             clear hu hv)))
      all_goals
        have HC6 := Lib.hid (HC3.out.up (w' := w6) (by (repeat (first | exact Below.refl _ _ | exact Go.RowKit.Hid.out (by assumption) | refine Up.trans ?_ (Up.drew _) | refine Up.trans ?_ (Up.drewN _ _) | refine Up.trans ?_ (Up.alloc _ _) | refine Up.trans ?_ (Go.RowKit.Hid.out (by assumption))))))
        have HC7 := Lib.hid (HC6.out.set s6 A6 n6 c6)
        have HZ7 := Lib.hid ((HZ3.out.up (w' := w6) (by (repeat (first | exact Below.refl _ _ | exact Go.RowKit.Hid.out (by assumption) | refine Up.trans ?_ (Up.drew _) | refine Up.trans ?_ (Up.drewN _ _) | refine Up.trans ?_ (Up.alloc _ _) | refine Up.trans ?_ (Go.RowKit.Hid.out (by assumption)))))).far HZN.out 0 1 (.int .i64 s6) (.slice A6 n6 c6))
        have HV8 := Lib.hid (HV7.out.put HC6.out.not_digit 0 1 (.int .i64 s6) (.slice A6 n6 c6))
        have HU8 := Lib.hid (Up.stored (show Up w w6 by (repeat (first | exact Below.refl _ _ | exact Go.RowKit.Hid.out (by assumption) | refine Up.trans ?_ (Up.drew _) | refine Up.trans ?_ (Up.drewN _ _) | refine Up.trans ?_ (Up.alloc _ _) | refine Up.trans ?_ (Go.RowKit.Hid.out (by assumption))))) HG0.out (.int .i64 s6) (.slice A6 n6 c6))
        clear HC6 z0 z1 y0 y1 lz t0 t1 lt
        go_wp2
        exact ⟨⟨k + 1, by omega, by simp, s6, A6, n6, c6, HZ7, HC7, HV8, HU8⟩, by simp [intOf]; omega⟩
    · have hke : k = xs.length := by omega
      subst hke
      rw [List.take_length] at HV
      have HTL : Hid ((xs.map fun p => p.1 * (lowN xs : Int).tdiv p.2).length = xs.length) := Lib.hid (by rw [List.length_map])
      have HB0 := Lib.hid (RowB.new wr xs.length)
      have HUT := Lib.hid (Up.alloc wr (.cells (zeroRow xs.length) 95))
      have HLB := Lib.hid (show bl ((lowN xs : Nat) : Int) ≤ 67108860 by have := HBL.out xs.length (Nat.le_refl _); rw [List.take_length] at this; omega)
      have HLM : Hid (xs.length ≤ maxLen) := Lib.hid (by unfold maxLen; omega)
      go_wp2_with fail
      obtain ⟨wT, hwT⟩ : ∃ wT, wT = wr.alloc (.cells (zeroRow xs.length) 95) := ⟨_, rfl⟩
      obtain ⟨gt, hgt⟩ : ∃ gt, gt = wr.heap.size := ⟨_, rfl⟩
      rw [← hwT] at HB0 HUT ⊢
      rw [← hgt] at HB0 ⊢
      have HGT := Lib.hid (show w.heap.size ≤ gt by have := HU.out.size; omega)
      have HNT := Lib.hid (show g0 ≠ gt by have := HC.out.lt; omega)
      have HCT := Lib.hid (HC.out.up HUT.out)
      have HZT := Lib.hid (HZ.out.up HUT.out)
      have HZM := Lib.hid (show gz ≠ gt by have := HZ.out.lt; omega)
      have HVT := Lib.hid (HV.out.up HUT.out)
      have HUW := Lib.hid (HU.out.trans HUT.out)
      clear hwT hgt hmk HU HUT HC HV HZ HBL HLP HV2 HU2 HC2 HZ2
      go_loopw [34] (fun i wr => ∃ k : Nat, k ≤ xs.length ∧ i = .int .i64 k ∧ Hid (RowB wr gt (fillR (xs.map fun p => p.1 * (lowN xs : Int).tdiv p.2) k)) ∧ Hid (CellZ wr gz 0 none 0 0) ∧ Hid (CellZ wr g0 s2 A2 n2 c2) ∧ Hid (IV wr (.agg #[.int .i64 s2, .slice A2 n2 c2]) (lowN xs : Nat)) ∧ Hid (Up w wr)) (fun i _ => xs.length - (intOf i).toNat)
      case atStart => exact ⟨0, by omega, rfl, Lib.hid (by rw [fillR_zero, HTL.out]; exact HB0.out), HZT, HCT, HVT, HUW⟩
      case round =>
        obtain ⟨k, hk2, rfl, HB, HZ, HC, HV, HU⟩ := hrel
        by_cases hkl2 : k < xs.length
        · obtain ⟨b, off, rfl, hbb, d0, d1⟩ := (hr.up HU.out).at_ hkl2
          have hR := hx _ (List.getElem_mem hkl2)
          have hP := hp _ (List.getElem_mem hkl2)
          have HNEXT : Hid (fillR (xs.map fun p => p.1 * (lowN xs : Int).tdiv p.2) (k + 1) = (fillR (xs.map fun p => p.1 * (lowN xs : Int).tdiv p.2) k).set k (xs[k].1 * (lowN xs : Int).tdiv xs[k].2)) := Lib.hid (by
            rw [← fillR_next _ k (by rw [HTL.out]; exact hkl2), List.getElem_map])
          have HIL : Hid (k < (fillR (xs.map fun p => p.1 * (lowN xs : Int).tdiv p.2) k).length) := Lib.hid (by rw [fillR_length _ _ (by rw [HTL.out]; omega), HTL.out]; exact hkl2)
          generalize xs[k].1 = x at *
          generalize xs[k].2 = y at *
          unfold Rng at hR
          have HOX := Lib.hid (fun W => HOF.out x W hR.1 hR.2.1)
          have HOY := Lib.hid (fun W => HOF.out y W hR.2.2.1 hR.2.2.2)
          have HX2 := Lib.hid (show bl x ≤ 2 from bl_small (by omega))
          have HQU := Lib.hid (fun W u v (h1 : IV W u (lowN xs : Nat)) (h2 : IV W v y) => intQuo_any u v _ _ W h1 h2 (Nat.le_trans HLB.out (by omega)) (by omega))
          have HTM := Lib.hid (fun W u v (h1 : IV W u x) (h2 : IV W v ((lowN xs : Int).tdiv y)) => intTimes_any u v _ _ W h1 h2 (Nat.le_trans HX2.out (by omega)) (Nat.le_trans (bl_tdiv HLB.out) (by omega)))
          clear hR hP
          go_upto_region 12 with fail
          have HN3 := Lib.hid (CellN.new wr x y)
          have HUX := Lib.hid (Up.alloc wr (.cells #[.int .i64 x, .int .i64 y] 23))
          obtain ⟨wX, hwX⟩ : ∃ wX, wX = wr.alloc (.cells #[.int .i64 x, .int .i64 y] 23) := ⟨_, rfl⟩
          obtain ⟨gx, hgx⟩ : ∃ gx, gx = wr.heap.size := ⟨_, rfl⟩
          rw [← hwX] at HN3 HUX ⊢
          rw [← hgx] at HN3 ⊢
          have HC3 := Lib.hid (HC.out.up HUX.out)
          have HZ3 := Lib.hid (HZ.out.up HUX.out)
          have HV3 := Lib.hid (HV.out.up HUX.out)
          have HB3 := Lib.hid (HB.out.up HUX.out)
          have HUU := Lib.hid (HU.out.trans HUX.out)
          clear hwX hgx d0 d1 hbb HU HUX HC HV HZ HB
          obtain ⟨z0, z1, -, -, lz⟩ := HC3.out.facts
          obtain ⟨t0, t1, -, -, lt⟩ := HN3.out.facts
          obtain ⟨sb, Bb, mb, kb, b0, b1⟩ := HB3.out.cells HIL.out
          have f3 := HB3.out.frozen (k * 2)
          have f4 := HB3.out.frozen (k * 2 + 1)
          have lb := HB3.out.lt
          go_region_law
            ((first
              | (go_simp
                 go_at_call_of 117 (Value.int .i64 x)
                 refine Calls.mono (HOX.out _) ?_
                 rintro e w4 ⟨v4, rfl, hv, hu⟩
                 obtain ⟨s4, A4, n4, c4, rfl, -⟩ := hv.open_
                 have HU4 := Lib.hid hu
                 have HV4 := Lib.hid hv
                 obtain ⟨z0, z1, -, -, lz⟩ := (HC3.out.up (w' := w4) (by (repeat (first | exact Below.refl _ _ | exact Go.RowKit.Hid.out (by assumption) | refine Up.trans ?_ (Up.drew _) | refine Up.trans ?_ (Up.drewN _ _) | refine Up.trans ?_ (Up.alloc _ _) | refine Up.trans ?_ (Go.RowKit.Hid.out (by assumption)))))).facts
                 obtain ⟨t0, t1, -, -, lt⟩ := (HN3.out.up (w' := w4) (by (repeat (first | exact Below.refl _ _ | exact Go.RowKit.Hid.out (by assumption) | refine Up.trans ?_ (Up.drew _) | refine Up.trans ?_ (Up.drewN _ _) | refine Up.trans ?_ (Up.alloc _ _) | refine Up.trans ?_ (Go.RowKit.Hid.out (by assumption)))))).facts
                 clear hu hv)
              | (go_simp
                 go_at_call_of 117 (Value.int .i64 y)
                 refine Calls.mono (HOY.out _) ?_
                 rintro e w5 ⟨v5, rfl, hv, hu⟩
                 obtain ⟨s5, A5, n5, c5, rfl, -⟩ := hv.open_
                 have HU5 := Lib.hid hu
                 have HV5 := Lib.hid hv
                 obtain ⟨z0, z1, -, -, lz⟩ := (HC3.out.up (w' := w5) (by (repeat (first | exact Below.refl _ _ | exact Go.RowKit.Hid.out (by assumption) | refine Up.trans ?_ (Up.drew _) | refine Up.trans ?_ (Up.drewN _ _) | refine Up.trans ?_ (Up.alloc _ _) | refine Up.trans ?_ (Go.RowKit.Hid.out (by assumption)))))).facts
                 obtain ⟨t0, t1, -, -, lt⟩ := (HN3.out.up (w' := w5) (by (repeat (first | exact Below.refl _ _ | exact Go.RowKit.Hid.out (by assumption) | refine Up.trans ?_ (Up.drew _) | refine Up.trans ?_ (Up.drewN _ _) | refine Up.trans ?_ (Up.alloc _ _) | refine Up.trans ?_ (Go.RowKit.Hid.out (by assumption)))))).facts
                 clear hu hv)
              | (go_simp
                 go_at_call 136
                 refine Calls.mono (HQU.out _ _ _ (HV3.out.up (by (repeat (first | exact Below.refl _ _ | exact Go.RowKit.Hid.out (by assumption) | refine Up.trans ?_ (Up.drew _) | refine Up.trans ?_ (Up.drewN _ _) | refine Up.trans ?_ (Up.alloc _ _) | refine Up.trans ?_ (Go.RowKit.Hid.out (by assumption)))))) (HV5.out.up (by (repeat (first | exact Below.refl _ _ | exact Go.RowKit.Hid.out (by assumption) | refine Up.trans ?_ (Up.drew _) | refine Up.trans ?_ (Up.drewN _ _) | refine Up.trans ?_ (Up.alloc _ _) | refine Up.trans ?_ (Go.RowKit.Hid.out (by assumption))))))) ?_
                 rintro e w6 ⟨v6, rfl, hv, hu⟩
                 obtain ⟨s6, A6, n6, c6, rfl, -⟩ := hv.open_
                 have HU6 := Lib.hid hu
                 have HV6 := Lib.hid hv
                 obtain ⟨z0, z1, -, -, lz⟩ := (HC3.out.up (w' := w6) (by (repeat (first | exact Below.refl _ _ | exact Go.RowKit.Hid.out (by assumption) | refine Up.trans ?_ (Up.drew _) | refine Up.trans ?_ (Up.drewN _ _) | refine Up.trans ?_ (Up.alloc _ _) | refine Up.trans ?_ (Go.RowKit.Hid.out (by assumption)))))).facts
                 obtain ⟨t0, t1, -, -, lt⟩ := (HN3.out.up (w' := w6) (by (repeat (first | exact Below.refl _ _ | exact Go.RowKit.Hid.out (by assumption) | refine Up.trans ?_ (Up.drew _) | refine Up.trans ?_ (Up.drewN _ _) | refine Up.trans ?_ (Up.alloc _ _) | refine Up.trans ?_ (Go.RowKit.Hid.out (by assumption)))))).facts
                 clear hu hv)
              | (go_simp
                 go_at_call 133
                 refine Calls.mono (HTM.out _ _ _ (HV4.out.up (by (repeat (first | exact Below.refl _ _ | exact Go.RowKit.Hid.out (by assumption) | refine Up.trans ?_ (Up.drew _) | refine Up.trans ?_ (Up.drewN _ _) | refine Up.trans ?_ (Up.alloc _ _) | refine Up.trans ?_ (Go.RowKit.Hid.out (by assumption)))))) (HV6.out.up (by (repeat (first | exact Below.refl _ _ | exact Go.RowKit.Hid.out (by assumption) | refine Up.trans ?_ (Up.drew _) | refine Up.trans ?_ (Up.drewN _ _) | refine Up.trans ?_ (Up.alloc _ _) | refine Up.trans ?_ (Go.RowKit.Hid.out (by assumption))))))) ?_
                 rintro e w7 ⟨v7, rfl, hv, hu⟩
                 obtain ⟨s7, A7, n7, c7, rfl, -⟩ := hv.open_
                 have HU7 := Lib.hid hu
                 have HV7 := Lib.hid hv
                 have HB7 := Lib.hid (HB3.out.up (w' := w7) (by (repeat (first | exact Below.refl _ _ | exact Go.RowKit.Hid.out (by assumption) | refine Up.trans ?_ (Up.drew _) | refine Up.trans ?_ (Up.drewN _ _) | refine Up.trans ?_ (Up.alloc _ _) | refine Up.trans ?_ (Go.RowKit.Hid.out (by assumption))))))
                 obtain ⟨sb, Bb, mb, kb, b0, b1⟩ := HB7.out.cells HIL.out
                 have f3 := HB7.out.frozen (k * 2)
                 have f4 := HB7.out.frozen (k * 2 + 1)
                 have lb := HB7.out.lt
                 clear hu hv)))
          all_goals
            have HB8 := Lib.hid (HB7.out.store HIL.out HV7.out)
            have HC8 := Lib.hid ((HC3.out.up (w' := w7) (by (repeat (first | exact Below.refl _ _ | exact Go.RowKit.Hid.out (by assumption) | refine Up.trans ?_ (Up.drew _) | refine Up.trans ?_ (Up.drewN _ _) | refine Up.trans ?_ (Up.alloc _ _) | refine Up.trans ?_ (Go.RowKit.Hid.out (by assumption)))))).far HNT.out (k * 2) (k * 2 + 1) (.int .i64 s7) (.slice A7 n7 c7))
            have HZ8 := Lib.hid ((HZ3.out.up (w' := w7) (by (repeat (first | exact Below.refl _ _ | exact Go.RowKit.Hid.out (by assumption) | refine Up.trans ?_ (Up.drew _) | refine Up.trans ?_ (Up.drewN _ _) | refine Up.trans ?_ (Up.alloc _ _) | refine Up.trans ?_ (Go.RowKit.Hid.out (by assumption)))))).far HZM.out (k * 2) (k * 2 + 1) (.int .i64 s7) (.slice A7 n7 c7))
            have HV8 := Lib.hid ((HV3.out.up (w' := w7) (by (repeat (first | exact Below.refl _ _ | exact Go.RowKit.Hid.out (by assumption) | refine Up.trans ?_ (Up.drew _) | refine Up.trans ?_ (Up.drewN _ _) | refine Up.trans ?_ (Up.alloc _ _) | refine Up.trans ?_ (Go.RowKit.Hid.out (by assumption)))))).put HB7.out.not_digit (k * 2) (k * 2 + 1) (.int .i64 s7) (.slice A7 n7 c7))
            have HU8 := Lib.hid (((show Up w w7 by (repeat (first | exact Below.refl _ _ | exact Go.RowKit.Hid.out (by assumption) | refine Up.trans ?_ (Up.drew _) | refine Up.trans ?_ (Up.drewN _ _) | refine Up.trans ?_ (Up.alloc _ _) | refine Up.trans ?_ (Go.RowKit.Hid.out (by assumption))))).setCell (p := ⟨gt, k * 2, none⟩) HGT.out (.int .i64 s7)).setCell (p := ⟨gt, k * 2 + 1, none⟩) HGT.out (.slice A7 n7 c7))
            clear z0 z1 lz t0 t1 lt b0 b1 f3 f4 lb
            go_wp2
            exact ⟨⟨k + 1, by omega, by simp, by rw [HNEXT.out]; exact HB8, HZ8, HC8, HV8, HU8⟩, by simp [intOf]; omega⟩
        · have hke : k = xs.length := by omega
          subst hke
          have HF := Lib.hid (by have := HB.out; rw [← HTL.out, fillR_all] at this; exact this)
          obtain ⟨z0, z1, -, -, lz⟩ := HC.out.facts
          obtain ⟨r0, r1, y0, y1, lr⟩ := HZ.out.facts
          have HZ8 := Lib.hid (HZ.out.set s2 A2 n2 c2)
          have HF8 := Lib.hid (HF.out.far HZM.out.symm HZ.out.not_digit 0 1 (.int .i64 s2) (.slice A2 n2 c2))
          have HV8 := Lib.hid (HV.out.put HZ.out.not_digit 0 1 (.int .i64 s2) (.slice A2 n2 c2))
          have HU8 := Lib.hid (Up.stored HU.out HGZZ.out (.int .i64 s2) (.slice A2 n2 c2))
          go_upto_region 14 with fail
          go_region_with (fail)
          all_goals
            go_wp2
            obtain ⟨z0, z1, -, -, -⟩ := HZ8.out.facts
            refine bodyPost_ret (by simp [results, Tryz.results144, go_sem, z0, z1]; try rfl) rfl ?_
            exact ⟨_, _, rfl, ⟨some ⟨gt, 0, none⟩, xs.length, by rw [HTL.out], by rw [HTL.out]; exact Nat.le_refl _, HLM.out, by first | exact HF8.out.rdz | exact (HF8.out.up (Up.drew _)).rdz, fun b off e => by cases e; exact HGT.out⟩, by first | exact HV8.out | exact HV8.out.up (Up.drew _), by first | exact HU8.out | exact HU8.out.trans (Up.drew _)⟩
end Go.Proofs.YtgcmogldiahdpaaGreatDoor

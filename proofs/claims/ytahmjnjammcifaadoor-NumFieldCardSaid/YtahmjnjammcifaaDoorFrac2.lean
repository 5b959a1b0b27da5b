import Derived.Test.YtahmjnjammcifaaDoorFrac1
namespace Go.Proofs.YtahmjnjammcifaaDoor
open Go.RowKit Fm

/-- A variable of type whole.Int in block g. -/
def Cell2 (w : World) (g : Nat) (s : Int) (A : Option Addr) (n c : Nat) : Prop := w.heap[g]? = some (.cells #[.int .i64 s, .slice A n c] 49 (0, 0))
theorem Cell2.lt {w : World} {g : Nat} {s : Int} {A : Option Addr} {n c : Nat} (h : Cell2 w g s A n c) : g < w.heap.size := by
  rcases Nat.lt_or_ge g w.heap.size with h1 | h1
  · exact h1
  · unfold Cell2 at h; rw [Array.getElem?_eq_none h1] at h; cases h
theorem Cell2.up {w w' : World} {g : Nat} {s : Int} {A : Option Addr} {n c : Nat} (h : Cell2 w g s A n c) (hu : Up w w') : Cell2 w' g s A n c := (hu.block g h.lt).trans h
theorem Cell2.facts {w : World} {g : Nat} {s : Int} {A : Option Addr} {n c : Nat} (h : Cell2 w g s A n c) : w.cell? ⟨g, 0, none⟩ = some (.int .i64 s) ∧ w.cell? ⟨g, 1, none⟩ = some (.slice A n c) ∧ w.frozen? ⟨g, 0, none⟩ = false ∧ w.frozen? ⟨g, 1, none⟩ = false ∧ g < w.heap.size :=
  ⟨by rw [cell_of_row w g 0 _ _ _ h]; rfl, by rw [cell_of_row w g 1 _ _ _ h]; rfl, by unfold Cell2 at h; simp [World.frozen?, h], by unfold Cell2 at h; simp [World.frozen?, h], h.lt⟩
theorem Cell2.new (w : World) (s : Int) (A : Option Addr) (n c : Nat) : Cell2 (w.alloc (.cells #[.int .i64 s, .slice A n c] 49)) w.heap.size s A n c := heap_alloc_new w _
theorem Cell2.set {w : World} {g : Nat} {s : Int} {A : Option Addr} {n c : Nat} (h : Cell2 w g s A n c) (s' : Int) (A' : Option Addr) (n' c' : Nat) : Cell2 ((w.setCell ⟨g, 0, none⟩ (.int .i64 s')).setCell ⟨g, 1, none⟩ (.slice A' n' c')) g s' A' n' c' := by
  unfold Cell2 at *
  simp [World.setCell, Array.getElem?_modify, h]
theorem Cell2.not_digit {w : World} {g : Nat} {s : Int} {A : Option Addr} {n c : Nat} (h : Cell2 w g s A n c) (i x : Nat) : w.cell? ⟨g, i, none⟩ ≠ some (.int .u32 (x : Int)) := by
  rw [cell_of_row w g i _ _ _ h]
  match i with
  | 0 => intro e; injection e with e; injection e with e1 e2; cases e1
  | 1 => intro e; injection e with e; cases e
  | k + 2 => simp
theorem IV.set2 {w : World} {v : Value} {z : Int} {g : Nat} (h : IV w v z) (hg : ∀ i x : Nat, w.cell? ⟨g, i, none⟩ ≠ some (.int .u32 (x : Int))) (x y : Value) : IV ((w.setCell ⟨g, 0, none⟩ x).setCell ⟨g, 1, none⟩ y) v z := by
  obtain ⟨s, d, rfl, hp⟩ := h
  refine ⟨s, d, rfl, ?_⟩
  have hkey : ∀ ds, Sl .u32 w d ds → Sl .u32 ((w.setCell ⟨g, 0, none⟩ x).setCell ⟨g, 1, none⟩ y) d ds := by
    rintro ds ⟨A, c, rfl, h1, h2, h3⟩
    refine ⟨A, c, rfl, h1, h2, fun hn => ?_⟩
    obtain ⟨b, off, rfl, hb, hc⟩ := h3 hn
    have hne : b ≠ g := by
      rintro rfl
      exact hg _ _ (hc 0 (List.length_pos_iff.2 hn))
    refine ⟨b, off, rfl, by simpa [World.setCell] using hb, fun i hi => ?_⟩
    rw [World.cell?_setCell_other _ _ _ _ (by intro e; injection e with e; exact hne e.symm), World.cell?_setCell_other _ _ _ _ (by intro e; injection e with e; exact hne e.symm)]
    exact hc i hi
  rcases hp with ⟨h1, h2, h3⟩ | ⟨h1, h2, h3⟩
  · exact .inl ⟨h1, h2, hkey _ h3⟩
  · exact .inr ⟨h1, h2, hkey _ h3⟩

set_option maxHeartbeats 4000000 in
set_option maxRecDepth 10000 in
theorem new_pos_any (v1 v2 : Value) (a b : Int) (w : World) (h1 : IV w v1 a) (h2 : IV w v2 b) (hs : 0 < b) (ha : bl a ≤ 67108864) (hb : bl b ≤ 67108864) (ht : Tab w) :
    Calls Tryd.prog 28 #[v1, v2] w fun e w' => ∃ v, e = .returned v ∧ FV w' v (Rat.divInt a b) ∧ Up w w' := by
  have HG := Lib.hid (fun W (hu : Up w W) => intGcd_any v1 v2 a b W (h1.up hu) (h2.up hu) ha hb (ht.up hu))
  have HSG := Lib.hid (fun W (hu : Up w W) => intSign_any v2 b W (h2.up hu))
  have hgz : ((Int.gcd a b : Nat) : Int) ≠ 0 := by
    intro h; have := Int.gcd_eq_zero_iff.1 (by omega : Int.gcd a b = 0); omega
  have HQ1 := Lib.hid (fun W v (hu : Up w W) (hv : IV W v (((Int.gcd a b : Nat) : Int))) => intQuo_any v1 v a _ W (h1.up hu) hv ha (by omega))
  have HQ2 := Lib.hid (fun W v (hu : Up w W) (hv : IV W v (((Int.gcd a b : Nat) : Int))) => intQuo_any v2 v b _ W (h2.up hu) hv hb (by omega))
  have HEQ := Lib.hid (new_pos (top := a) hs)
  have hsg : b.sign = 1 := Int.sign_eq_one_of_pos hs
  rw [hsg] at HSG
  obtain ⟨s, A, n, c, rfl, -, -, -, hn, -⟩ := h1.open_
  obtain ⟨s2, A2, n2, c2, rfl, -, -, -, hn2, -⟩ := h2.open_
  clear h1 h2 ha hb ht hgz hs hsg
  go_enter Tryd.func28, Tryd.ntmps28
  go_wp2_with fail
  obtain ⟨wB, hwB, hbx, hrs, hu0⟩ := start24 w s (.slice A n c) s2 (.slice A2 n2 c2)
  rw [hwB]
  clear hwB
  refine (HG.out _ hu0).mono ?_
  rintro e w1 ⟨v3, rfl, hv3, hu1⟩
  obtain ⟨s3, A3, n3, c3, rfl, -, -, -, -, -⟩ := hv3.open_
  have HBX := Lib.hid (hbx.up hu1)
  have HRS := Lib.hid (hrs.up hu1)
  have HU := Lib.hid (hu0.trans hu1)
  have hszB : w.heap.size + 1 + 1 < w1.heap.size := (hrs.up hu1).lt
  have hbw := HBX.out.up (Up.alloc w1 (.cells #[.int .i64 s3, .slice A3 n3 c3] 49))
  have HC := Lib.hid (Cell2.new w1 s3 A3 n3 c3)
  have HV3 := Lib.hid (hv3.up (Up.alloc w1 (.cells #[.int .i64 s3, .slice A3 n3 c3] 49)))
  clear hbx hrs hu0 hu1 hv3
  obtain ⟨a0, a1, b0, b1, la, lb⟩ := hbw
  go_wp2_with fail
  refine (HSG.out _ (HU.out.trans (Up.alloc _ _))).mono ?_
  rintro e w2 ⟨rfl, hu2⟩
  have HC2 := Lib.hid (HC.out.up hu2)
  have HP2 := Lib.hid ((Up.alloc _ _).trans hu2)
  have HV2 := Lib.hid (HV3.out.up hu2)
  clear hu2 a0 a1 b0 b1 la lb HC HV3
  obtain ⟨a0, a1, b0, b1, la, lb⟩ := HBX.out.up HP2.out
  obtain ⟨c0, c1, g0, g1, lc⟩ := HC2.out.facts
  go_wp2_with fail
  have hne1 : (w.heap.size = w.heap.size + 1 + 1) = False := by simp; omega
  have hne2 : (w.heap.size + 1 + 1 = w.heap.size) = False := by simp; omega
  have hne3 : (w1.heap.size = w.heap.size + 1 + 1) = False := by simp; omega
  have hne4 : (w.heap.size + 1 + 1 = w1.heap.size) = False := by simp; omega
  go_region_held3 (fun w' => w'.cell? ⟨w.heap.size, 0, none⟩ = some (.int .i64 s) ∧ w'.cell? ⟨w.heap.size, 1, none⟩ = some (.slice A n c) ∧ w'.cell? ⟨w.heap.size + 1, 0, none⟩ = some (.int .i64 s2) ∧ w'.cell? ⟨w.heap.size + 1, 1, none⟩ = some (.slice A2 n2 c2) ∧ w'.cell? ⟨w1.heap.size, 0, none⟩ = some (.int .i64 s3) ∧ w'.cell? ⟨w1.heap.size, 1, none⟩ = some (.slice A3 n3 c3)) (go_keep)
    ((first
      | (go_at_call_of 64 (Value.int IntKind.i64 s)
         refine (HQ1.out _ _ ((HU.out.trans HP2.out).trans (Up.drew w2)) (HV2.out.up (Up.drew w2))).mono ?_
         rintro e w5 ⟨v5, rfl, hv5, hu5⟩
         have HP5 := Lib.hid ((HP2.out.trans (Up.drew w2)).trans hu5)
         obtain ⟨a0, a1, b0, b1, la, lb⟩ := HBX.out.up HP5.out
         obtain ⟨c0, c1, g0, g1, lc⟩ := ((HC2.out.up (Up.drew w2)).up hu5).facts
         have HC5 := Lib.hid ((HC2.out.up (Up.drew w2)).up hu5)
         have HVD := Lib.hid ((HV2.out.up (Up.drew w2)).up hu5)
         obtain ⟨s5, A5, n5, c5, rfl, -, -, -, -, -⟩ := hv5.open_
         have HV5 := Lib.hid hv5
         clear hv5 hu5)
      | (go_at_call_of 64 (Value.int IntKind.i64 s2)
         refine (HQ2.out _ _ (HU.out.trans HP5.out) HVD.out).mono ?_
         rintro e w6 ⟨v6, rfl, hv6, hu6⟩
         have HP6 := Lib.hid (HP5.out.trans hu6)
         obtain ⟨a0, a1, b0, b1, la, lb⟩ := HBX.out.up HP6.out
         obtain ⟨c0, c1, g0, g1, lc⟩ := (HC5.out.up hu6).facts
         obtain ⟨r0, r1, r2, r3, f0, f1, f2, f3⟩ := (HRS.out.up HP6.out).facts
         have HRS6 := Lib.hid (HRS.out.up HP6.out)
         have HV5b := Lib.hid (HV5.out.up hu6)
         obtain ⟨s6, A6, n6, c6, rfl, -, -, -, -, -⟩ := hv6.open_
         have HV6 := Lib.hid hv6
         clear hv6 hu6)))
  have hq := HRS6.out.stored (.int .i64 s5) (.slice A5 n5 c5) (.int .i64 s6) (.slice A6 n6 c6)
  have HVA := Lib.hid (HV5b.out.put4 HRS6.out (.int .i64 s5) (.slice A5 n5 c5) (.int .i64 s6) (.slice A6 n6 c6))
  have HVB := Lib.hid (HV6.out.put4 HRS6.out (.int .i64 s5) (.slice A5 n5 c5) (.int .i64 s6) (.slice A6 n6 c6))
  have HUF := Lib.hid ((HU.out.trans HP6.out).put4 (show w.heap.size ≤ w.heap.size + 1 + 1 by omega) (.int .i64 s5) (.slice A5 n5 c5) (.int .i64 s6) (.slice A6 n6 c6))
  unfold put4 at hq HVA HVB HUF
  obtain ⟨hq0, hq1, hq2, hq3⟩ := hq
  go_wp2
  refine bodyPost_ret (by simp [results, Tryd.results28, go_sem, hq0, hq1, hq2, hq3]; try rfl) rfl ?_
  have hva := HVA.out
  have hvb := HVB.out
  rw [HEQ.out.1] at hva
  rw [HEQ.out.2] at hvb
  exact ⟨_, rfl, ⟨_, _, _, _, _, _, _, _, rfl, hva, hvb⟩, HUF.out⟩

set_option maxHeartbeats 4000000 in
set_option maxRecDepth 10000 in
theorem new_neg_any (v1 v2 : Value) (a b : Int) (w : World) (h1 : IV w v1 a) (h2 : IV w v2 b) (hs : b < 0) (ha : bl a ≤ 67108864) (hb : bl b ≤ 67108864) (ht : Tab w) :
    Calls Tryd.prog 28 #[v1, v2] w fun e w' => ∃ v, e = .returned v ∧ FV w' v (Rat.divInt a b) ∧ Up w w' := by
  have HG := Lib.hid (fun W (hu : Up w W) => intGcd_any v1 v2 a b W (h1.up hu) (h2.up hu) ha hb (ht.up hu))
  have HSG := Lib.hid (fun W (hu : Up w W) => intSign_any v2 b W (h2.up hu))
  have hgz : ((Int.gcd a b : Nat) : Int) ≠ 0 := by
    intro h; have := Int.gcd_eq_zero_iff.1 (by omega : Int.gcd a b = 0); omega
  have HQ1 := Lib.hid (fun W v (hu : Up w W) (hv : IV W v (-((Int.gcd a b : Nat) : Int))) => intQuo_any v1 v a _ W (h1.up hu) hv ha (by omega))
  have HQ2 := Lib.hid (fun W v (hu : Up w W) (hv : IV W v (-((Int.gcd a b : Nat) : Int))) => intQuo_any v2 v b _ W (h2.up hu) hv hb (by omega))
  have HEQ := Lib.hid (new_neg (top := a) hs)
  have hsg : b.sign = -1 := Int.sign_eq_neg_one_of_neg hs
  rw [hsg] at HSG
  obtain ⟨s, A, n, c, rfl, -, -, -, hn, -⟩ := h1.open_
  obtain ⟨s2, A2, n2, c2, rfl, -, -, -, hn2, -⟩ := h2.open_
  clear h1 h2 ha hb ht hgz hs hsg
  go_enter Tryd.func28, Tryd.ntmps28
  go_wp2_with fail
  obtain ⟨wB, hwB, hbx, hrs, hu0⟩ := start24 w s (.slice A n c) s2 (.slice A2 n2 c2)
  rw [hwB]
  clear hwB
  refine (HG.out _ hu0).mono ?_
  rintro e w1 ⟨v3, rfl, hv3, hu1⟩
  obtain ⟨s3, A3, n3, c3, rfl, -, -, -, -, -⟩ := hv3.open_
  have HBX := Lib.hid (hbx.up hu1)
  have HRS := Lib.hid (hrs.up hu1)
  have HU := Lib.hid (hu0.trans hu1)
  have hszB : w.heap.size + 1 + 1 < w1.heap.size := (hrs.up hu1).lt
  have hbw := HBX.out.up (Up.alloc w1 (.cells #[.int .i64 s3, .slice A3 n3 c3] 49))
  have HC := Lib.hid (Cell2.new w1 s3 A3 n3 c3)
  have HV3 := Lib.hid (hv3.up (Up.alloc w1 (.cells #[.int .i64 s3, .slice A3 n3 c3] 49)))
  clear hbx hrs hu0 hu1 hv3
  obtain ⟨a0, a1, b0, b1, la, lb⟩ := hbw
  go_wp2_with fail
  refine (HSG.out _ (HU.out.trans (Up.alloc _ _))).mono ?_
  rintro e w2 ⟨rfl, hu2⟩
  have HC2 := Lib.hid (HC.out.up hu2)
  have HP2 := Lib.hid ((Up.alloc _ _).trans hu2)
  have HV2 := Lib.hid (HV3.out.up hu2)
  clear hu2 a0 a1 b0 b1 la lb HC HV3
  obtain ⟨a0, a1, b0, b1, la, lb⟩ := HBX.out.up HP2.out
  obtain ⟨c0, c1, g0, g1, lc⟩ := HC2.out.facts
  go_wp2_with fail
  refine (neg_any _ _ _ HV2.out).mono ?_
  rintro e w3 ⟨v4, rfl, hv4, hu3⟩
  obtain ⟨s4, A4, n4, c4, rfl, -, -, -, -, -⟩ := hv4.open_
  have hc3 := HC2.out.up hu3
  have HC4 := Lib.hid (hc3.set s4 A4 n4 c4)
  have HP4 := Lib.hid ((HP2.out.trans hu3).stored (Nat.le_refl _) (.int .i64 s4) (.slice A4 n4 c4))
  have HV4 := Lib.hid (hv4.set2 hc3.not_digit (.int .i64 s4) (.slice A4 n4 c4))
  clear a0 a1 b0 b1 la lb c0 c1 g0 g1 lc
  obtain ⟨c0, c1, g0, g1, lc⟩ := hc3.facts
  obtain ⟨a0, a1, b0, b1, la, lb⟩ := HBX.out.up HP4.out
  clear hu3 hv4 hc3
  go_wp2_with fail
  obtain ⟨w4, hw4⟩ : ∃ w4, w4 = (w3.setCell ⟨w1.heap.size, 0, none⟩ (.int .i64 s4)).setCell ⟨w1.heap.size, 1, none⟩ (.slice A4 n4 c4) := ⟨_, rfl⟩
  rw [← hw4] at HC4 HP4 HV4 ⊢
  clear a0 a1 b0 b1 la lb c0 c1 g0 g1 lc hw4
  obtain ⟨a0, a1, b0, b1, la, lb⟩ := HBX.out.up HP4.out
  obtain ⟨c0, c1, g0, g1, lc⟩ := HC4.out.facts
  have hne1 : (w.heap.size = w.heap.size + 1 + 1) = False := by simp; omega
  have hne2 : (w.heap.size + 1 + 1 = w.heap.size) = False := by simp; omega
  have hne3 : (w1.heap.size = w.heap.size + 1 + 1) = False := by simp; omega
  have hne4 : (w.heap.size + 1 + 1 = w1.heap.size) = False := by simp; omega
  go_region_held3 (fun w' => w'.cell? ⟨w.heap.size, 0, none⟩ = some (.int .i64 s) ∧ w'.cell? ⟨w.heap.size, 1, none⟩ = some (.slice A n c) ∧ w'.cell? ⟨w.heap.size + 1, 0, none⟩ = some (.int .i64 s2) ∧ w'.cell? ⟨w.heap.size + 1, 1, none⟩ = some (.slice A2 n2 c2) ∧ w'.cell? ⟨w1.heap.size, 0, none⟩ = some (.int .i64 s4) ∧ w'.cell? ⟨w1.heap.size, 1, none⟩ = some (.slice A4 n4 c4)) (go_keep)
    ((first
      | (go_at_call_of 64 (Value.int IntKind.i64 s)
         refine (HQ1.out _ _ ((HU.out.trans HP4.out).trans (Up.drew w4)) (HV4.out.up (Up.drew w4))).mono ?_
         rintro e w5 ⟨v5, rfl, hv5, hu5⟩
         have HP5 := Lib.hid ((HP4.out.trans (Up.drew w4)).trans hu5)
         obtain ⟨a0, a1, b0, b1, la, lb⟩ := HBX.out.up HP5.out
         obtain ⟨c0, c1, g0, g1, lc⟩ := ((HC4.out.up (Up.drew w4)).up hu5).facts
         have HC5 := Lib.hid ((HC4.out.up (Up.drew w4)).up hu5)
         have HVD := Lib.hid ((HV4.out.up (Up.drew w4)).up hu5)
         obtain ⟨s5, A5, n5, c5, rfl, -, -, -, -, -⟩ := hv5.open_
         have HV5 := Lib.hid hv5
         clear hv5 hu5)
      | (go_at_call_of 64 (Value.int IntKind.i64 s2)
         refine (HQ2.out _ _ (HU.out.trans HP5.out) HVD.out).mono ?_
         rintro e w6 ⟨v6, rfl, hv6, hu6⟩
         have HP6 := Lib.hid (HP5.out.trans hu6)
         obtain ⟨a0, a1, b0, b1, la, lb⟩ := HBX.out.up HP6.out
         obtain ⟨c0, c1, g0, g1, lc⟩ := (HC5.out.up hu6).facts
         obtain ⟨r0, r1, r2, r3, f0, f1, f2, f3⟩ := (HRS.out.up HP6.out).facts
         have HRS6 := Lib.hid (HRS.out.up HP6.out)
         have HV5b := Lib.hid (HV5.out.up hu6)
         obtain ⟨s6, A6, n6, c6, rfl, -, -, -, -, -⟩ := hv6.open_
         have HV6 := Lib.hid hv6
         clear hv6 hu6)))
  have hq := HRS6.out.stored (.int .i64 s5) (.slice A5 n5 c5) (.int .i64 s6) (.slice A6 n6 c6)
  have HVA := Lib.hid (HV5b.out.put4 HRS6.out (.int .i64 s5) (.slice A5 n5 c5) (.int .i64 s6) (.slice A6 n6 c6))
  have HVB := Lib.hid (HV6.out.put4 HRS6.out (.int .i64 s5) (.slice A5 n5 c5) (.int .i64 s6) (.slice A6 n6 c6))
  have HUF := Lib.hid ((HU.out.trans HP6.out).put4 (show w.heap.size ≤ w.heap.size + 1 + 1 by omega) (.int .i64 s5) (.slice A5 n5 c5) (.int .i64 s6) (.slice A6 n6 c6))
  unfold put4 at hq HVA HVB HUF
  obtain ⟨hq0, hq1, hq2, hq3⟩ := hq
  go_wp2
  refine bodyPost_ret (by simp [results, Tryd.results28, go_sem, hq0, hq1, hq2, hq3]; try rfl) rfl ?_
  have hva := HVA.out
  have hvb := HVB.out
  rw [HEQ.out.1] at hva
  rw [HEQ.out.2] at hvb
  exact ⟨_, rfl, ⟨_, _, _, _, _, _, _, _, rfl, hva, hvb⟩, HUF.out⟩

theorem fracNew_any (v1 v2 : Value) (a b : Int) (w : World) (h1 : IV w v1 a) (h2 : IV w v2 b) (hz : b ≠ 0) (ha : bl a ≤ 67108864) (hb : bl b ≤ 67108864) (ht : Tab w) :
    Calls Tryd.prog 28 #[v1, v2] w fun e w' => ∃ v, e = .returned v ∧ FV w' v (Rat.divInt a b) ∧ Up w w' := by
  rcases Int.lt_or_lt_of_ne hz with h | h
  · exact new_neg_any v1 v2 a b w h1 h2 h ha hb ht
  · exact new_pos_any v1 v2 a b w h1 h2 h ha hb ht
end Go.Proofs.YtahmjnjammcifaaDoor

/- What a further law needs. -/
import Derived.Test.YtacbjbnocepnaaaGreatDoorQGG
import Derived.Test.YtacbjbnocepnaaaGreatDoorQGH
import Derived.Test.YtacbjbnocepnaaaGreatDoorQGK
import Derived.Test.YtacbjbnocepnaaaGreatDoorQGK2
import Derived.Test.YtacbjbnocepnaaaGreatDoorQGM
import Derived.Test.YtacbjbnocepnaaaGreatDoorQGN
namespace Go.Proofs.YtacbjbnocepnaaaGreatDoor
open Go.RowKit Fm
theorem eq_iff_digits {s s2 a b : Int} {m m2 : Nat} (h1 : (m = 0 ∧ s = a) ∨ (4611686018427387904 ≤ m ∧ m = a.natAbs ∧ s = a.sign)) (h2 : (m2 = 0 ∧ s2 = b) ∨ (4611686018427387904 ≤ m2 ∧ m2 = b.natAbs ∧ s2 = b.sign)) : a = b ↔ (s = s2 ∧ m = m2) ∨ (a = b ∧ (m = 0 ∧ m2 ≠ 0 ∨ m ≠ 0 ∧ m2 = 0)) := by
  rcases h1 with ⟨h1, h3⟩ | ⟨h1, h3, h5⟩ <;> rcases h2 with ⟨h2, h4⟩ | ⟨h2, h4, h6⟩
  · omega
  · omega
  · omega
  · constructor
    · rintro rfl; left; exact ⟨by rw [h5, h6], by omega⟩
    · rintro (⟨h7, h8⟩ | h7)
      · have : a.natAbs = b.natAbs := by omega
        rw [← Int.sign_mul_natAbs a, ← Int.sign_mul_natAbs b, ← h5, ← h6, h7, this]
      · exact h7.1
theorem eq_iff_digits' {s s2 a b : Int} {m m2 : Nat} (h1 : (m = 0 ∧ s = a) ∨ (4611686018427387904 ≤ m ∧ m = a.natAbs ∧ s = a.sign)) (h2 : (m2 = 0 ∧ s2 = b) ∨ (4611686018427387904 ≤ m2 ∧ m2 = b.natAbs ∧ s2 = b.sign)) (ha : m = 0 → a.natAbs < 4611686018427387904) (hb : m2 = 0 → b.natAbs < 4611686018427387904) : a = b ↔ s = s2 ∧ ((m : Int) - m2).sign = 0 := by
  rw [eq_iff_digits h1 h2, Int.sign_eq_zero_iff_zero]
  constructor
  · rintro (⟨h, h'⟩ | ⟨h, h' | h'⟩)
    · exact ⟨h, by omega⟩
    · have := ha h'.1; rw [h] at this; rcases h2 with h2 | h2 <;> omega
    · have := hb h'.2; rw [← h] at this; rcases h1 with h1 | h1 <;> omega
  · rintro ⟨h, h'⟩
    exact .inl ⟨h, by omega⟩
set_option maxHeartbeats 1000000 in
set_option maxRecDepth 10000 in
theorem intEqual_any (v1 v2 : Value) (a b : Int) (w : World) (h1 : IV w v1 a) (h2 : IV w v2 b) :
    Calls Tryz.prog 118 #[v1, v2] w fun e w' => e = .returned (.bool (decide (a = b))) ∧ Up w w' := by
  obtain ⟨s, A, n, c, rfl, hp1, -, -, hn, -⟩ := h1.open_
  obtain ⟨s2, A2, n2, c2, rfl, hp2, -, -, hn2, -⟩ := h2.open_
  obtain ⟨m, hm, hm1, hm2⟩ := hp1.digits
  obtain ⟨k, hk, hk1, hk2⟩ := hp2.digits
  have hiff := eq_iff_digits' hm1 hk1 hm2 hk2
  have HC := Lib.hid (fun W (hu : Up w W) => cmp_any _ _ m k W (Sl.up hm hu) (Sl.up hk hu))
  clear hm hk hm1 hm2 hk1 hk2 h1 h2 hp1 hp2
  rw [show decide (a = b) = decide (s = s2 ∧ ((m : Int) - k).sign = 0) by simp [hiff]]
  generalize ((m : Int) - k).sign = sg at *
  clear hiff
  by_cases hs : s = s2
  · subst hs
    go_enter Tryz.func118, Tryz.ntmps118
    go_wp2_with fail
    refine (HC.out _ ((Up.alloc _ _).trans (Up.alloc _ _))).mono ?_
    rintro e w1 ⟨rfl, nq, rfl⟩
    go_wp2
    go_ret
    exact ⟨by simp; by_cases h : sg = 0 <;> simp [h], ((Up.alloc _ _).trans (Up.alloc _ _)).trans (Up.drewN _ _)⟩
  · have hsf : (s == s2) = false := by simp; exact hs
    go_enter Tryz.func118, Tryz.ntmps118
    go_wp2
    go_ret
    exact ⟨by simp [hs], (Up.alloc _ _).trans (Up.alloc _ _)⟩
theorem rat_plus (a b : Rat) :
    (a + b).num = (a.num * ((b.den / a.den.gcd b.den : Nat) : Int) + b.num * ((a.den / a.den.gcd b.den : Nat) : Int)) / (((a.num * ((b.den / a.den.gcd b.den : Nat) : Int) + b.num * ((a.den / a.den.gcd b.den : Nat) : Int)).natAbs.gcd (a.den.gcd b.den) : Nat) : Int) ∧
    (a + b).den = a.den / (a.num * ((b.den / a.den.gcd b.den : Nat) : Int) + b.num * ((a.den / a.den.gcd b.den : Nat) : Int)).natAbs.gcd (a.den.gcd b.den) * (b.den / a.den.gcd b.den) := by
  have haux := Rat.add.aux a b (g := a.den.gcd b.den) rfl rfl rfl
  obtain ⟨x, hx⟩ : a.den.gcd b.den ∣ a.den := Nat.gcd_dvd_left _ _
  obtain ⟨y, hy⟩ : a.den.gcd b.den ∣ b.den := Nat.gcd_dvd_right _ _
  have ha0 := a.den_nz
  have hb0 := b.den_nz
  have hg : 0 < a.den.gcd b.den := Nat.gcd_pos_of_pos_left _ (by omega)
  have hax : a.den / a.den.gcd b.den = x := by conv => lhs; lhs; rw [hx]
                                               exact Nat.mul_div_cancel_left _ hg
  have hby : b.den / a.den.gcd b.den = y := by conv => lhs; lhs; rw [hy]
                                               exact Nat.mul_div_cancel_left _ hg
  simp only [hax, hby] at haux ⊢
  generalize a.den.gcd b.den = g at *
  have hT : a + b = Rat.normalize (a.num * (y : Int) + b.num * (x : Int)) (x * b.den) (by
      rw [hy]; intro h
      rcases Nat.mul_eq_zero.1 h with h | h
      · rw [h] at hx; omega
      · omega) := by
    rw [Rat.add_def, Rat.normalize_eq_mkRat, Rat.normalize_eq_mkRat, Rat.mkRat_eq_iff (by rw [ne_eq, Nat.mul_eq_zero]; omega) (by
      rw [ne_eq, Nat.mul_eq_zero]; rintro (h | h)
      · rw [h] at hx; omega
      · omega)]
    rw [hx, hy]
    push_cast
    grind
  generalize a.num * (y : Int) + b.num * (x : Int) = top at *
  rw [hT, Rat.normalize_eq]
  refine ⟨by simp only [haux], ?_⟩
  simp only
  rw [← haux]
  obtain ⟨d, hd⟩ : top.natAbs.gcd g ∣ g := Nat.gcd_dvd_right _ _
  generalize top.natAbs.gcd g = e at *
  have he : 0 < e := by rcases Nat.eq_zero_or_pos e with h | h; · rw [h] at hd; omega
                        · exact h
  rw [hx, hy]
  have e1 : x * (g * y) = e * (d * x * y) := by rw [hd]; grind
  have e2 : g * x = e * (d * x) := by rw [hd]; grind
  rw [e1, e2, Nat.mul_div_cancel_left _ he, Nat.mul_div_cancel_left _ he]
theorem rat_mul (a b : Rat) : a * b = Rat.divInt (a.num * b.num) (a.den * b.den) := by
  conv => lhs; rw [← Rat.num_divInt_den a, ← Rat.num_divInt_den b]
  rw [Rat.divInt_mul_divInt]
theorem start34 (w : World) (s : Int) (d : Value) (t : Int) (f : Value) (s2 : Int) (d2 : Value) (t2 : Int) (f2 : Value) :
    ∃ wB, (((w.alloc (.cells #[.int .i64 s, d, .int .i64 t, f] 110)).alloc (.cells #[.int .i64 s2, d2, .int .i64 t2, f2] 110)).alloc (.cells #[.int .i64 0, .slice none 0 0, .int .i64 0, .slice none 0 0] 110)) = wB ∧
      Boxes4 wB w.heap.size (w.heap.size + 1) s d t f s2 d2 t2 f2 ∧ Res4 wB (w.heap.size + 1 + 1) ∧ Up w wB := by
  refine ⟨_, rfl, ?_, ?_, Up.three w _ _ _⟩
  · have h1 : (((w.alloc (.cells #[.int .i64 s, d, .int .i64 t, f] 110)).alloc (.cells #[.int .i64 s2, d2, .int .i64 t2, f2] 110)).alloc (.cells #[.int .i64 0, .slice none 0 0, .int .i64 0, .slice none 0 0] 110)).heap[w.heap.size]? = some (.cells #[.int .i64 s, d, .int .i64 t, f] 110 (0, 0)) := by
      rw [Below.heap_alloc _ _ _ (by simp; omega), Below.heap_alloc _ _ _ (by simp), heap_alloc_new]
    have h2 : (((w.alloc (.cells #[.int .i64 s, d, .int .i64 t, f] 110)).alloc (.cells #[.int .i64 s2, d2, .int .i64 t2, f2] 110)).alloc (.cells #[.int .i64 0, .slice none 0 0, .int .i64 0, .slice none 0 0] 110)).heap[w.heap.size + 1]? = some (.cells #[.int .i64 s2, d2, .int .i64 t2, f2] 110 (0, 0)) := by
      rw [Below.heap_alloc _ _ _ (by simp)]
      have := heap_alloc_new (w.alloc (.cells #[.int .i64 s, d, .int .i64 t, f] 110)) (.cells #[.int .i64 s2, d2, .int .i64 t2, f2] 110)
      simpa using this
    exact ⟨by rw [cell_of_row _ _ 0 _ _ _ h1]; rfl, by rw [cell_of_row _ _ 1 _ _ _ h1]; rfl, by rw [cell_of_row _ _ 2 _ _ _ h1]; rfl, by rw [cell_of_row _ _ 3 _ _ _ h1]; rfl, by rw [cell_of_row _ _ 0 _ _ _ h2]; rfl, by rw [cell_of_row _ _ 1 _ _ _ h2]; rfl, by rw [cell_of_row _ _ 2 _ _ _ h2]; rfl, by rw [cell_of_row _ _ 3 _ _ _ h2]; rfl, by simp; omega, by simp⟩
  · have := Res4.new ((w.alloc (.cells #[.int .i64 s, d, .int .i64 t, f] 110)).alloc (.cells #[.int .i64 s2, d2, .int .i64 t2, f2] 110))
    simpa using this
set_option maxHeartbeats 4000000 in
set_option maxRecDepth 10000 in
theorem fracTimes_any (v1 v2 : Value) (a b : Rat) (w : World) (h1 : FV w v1 a) (h2 : FV w v2 b) (ha : FB a 16777216) (hb : FB b 16777216)  (ht : Tab w) :
    Calls Tryz.prog 120 #[v1, v2] w fun e w' => ∃ v, e = .returned v ∧ FV w' v ( a * b) ∧ Up w w' := by
  obtain ⟨s, A, n, c, t, F, m, k, rfl, hp1, hp2⟩ := h1
  obtain ⟨s2, A2, n2, c2, t2, F2, m2, k2, rfl, hp3, hp4⟩ := h2
  have HT1 := Lib.hid (fun W (hu : Up w W) => intTimes_any _ _ a.num b.num W (hp1.up hu) (hp3.up hu) (Nat.le_trans ha.top (by omega)) (Nat.le_trans hb.top (by omega)))
  have HT2 := Lib.hid (fun W (hu : Up w W) => intTimes_any _ _ a.den b.den W (hp2.up hu) (hp4.up hu) (Nat.le_trans ha.low (by omega)) (Nat.le_trans hb.low (by omega)))
  have HN := Lib.hid (fun W u1 u2 (hu : Up w W) (hv1 : IV W u1 (a.num * b.num)) (hv2 : IV W u2 (a.den * b.den)) => fracNew_any u1 u2 (a.num * b.num) (a.den * b.den) W hv1 hv2 (by have := a.den_nz; have := b.den_nz; simp only [ne_eq, Int.mul_eq_zero]; omega) (bl_mul ha.top hb.top (by omega)) (bl_mul ha.low hb.low (by omega)) (ht.up hu))
  have HEQ := Lib.hid (rat_mul a b)
  have q1 : n ≤ 9223372036854775807 := (let ⟨_, _, _, _, e, _, _, _, h, _⟩ := hp1.open_; by injection e with e; injection e with e; injection e with _ e; injection e with e; injection e with _ e2; omega)
  clear hp1 hp2 hp3 hp4 ha hb ht
  go_enter Tryz.func120, Tryz.ntmps120
  go_wp2_with fail
  obtain ⟨wB, hwB, hbx, hrs, hu0⟩ := start34 w s (.slice A n c) t (.slice F m k) s2 (.slice A2 n2 c2) t2 (.slice F2 m2 k2)
  rw [hwB]
  clear hwB
  have HBX := Lib.hid hbx
  have HRS := Lib.hid hrs
  have HU := Lib.hid hu0
  obtain ⟨a0, a1, a2, a3, b0, b1, b2, b3, la, lb⟩ := HBX.out
  clear hbx hrs hu0
  have hne1 : (w.heap.size = w.heap.size + 1 + 1) = False := by simp; omega
  have hne2 : (w.heap.size + 1 + 1 = w.heap.size) = False := by simp; omega
  go_region_held3 (fun w' => w'.cell? ⟨w.heap.size, 0, none⟩ = some (.int .i64 s) ∧ w'.cell? ⟨w.heap.size, 1, none⟩ = some (.slice A n c) ∧ w'.cell? ⟨w.heap.size, 2, none⟩ = some (.int .i64 t) ∧ w'.cell? ⟨w.heap.size, 3, none⟩ = some (.slice F m k) ∧ w'.cell? ⟨w.heap.size + 1, 0, none⟩ = some (.int .i64 s2) ∧ w'.cell? ⟨w.heap.size + 1, 1, none⟩ = some (.slice A2 n2 c2) ∧ w'.cell? ⟨w.heap.size + 1, 2, none⟩ = some (.int .i64 t2) ∧ w'.cell? ⟨w.heap.size + 1, 3, none⟩ = some (.slice F2 m2 k2)) (go_keep)
    ((first
      | (go_at_call_of 140 (Value.int IntKind.i64 s)
         refine (HT1.out _ (HU.out.trans (Up.drew wB))).mono ?_
         rintro e w5 ⟨v5, rfl, hv5, hu5⟩
         have HP5 := Lib.hid ((Up.drew wB).trans hu5)
         obtain ⟨a0, a1, a2, a3, b0, b1, b2, b3, la, lb⟩ := HBX.out.up HP5.out
         have HV5 := Lib.hid hv5
         clear hv5 hu5)
      | (go_at_call_of 140 (Value.int IntKind.i64 t)
         refine (HT2.out _ (HU.out.trans HP5.out)).mono ?_
         rintro e w6 ⟨v6, rfl, hv6, hu6⟩
         have HP6 := Lib.hid (HP5.out.trans hu6)
         obtain ⟨a0, a1, a2, a3, b0, b1, b2, b3, la, lb⟩ := HBX.out.up HP6.out
         have HV5b := Lib.hid (HV5.out.up hu6)
         have HV6 := Lib.hid hv6
         clear hv6 hu6)
      | (go_at_call 60
         refine (HN.out _ _ _ (HU.out.trans HP6.out) HV5b.out HV6.out).mono ?_
         rintro e w7 ⟨v7, rfl, hv7, hu7⟩
         have HP7 := Lib.hid (HP6.out.trans hu7)
         obtain ⟨a0, a1, a2, a3, b0, b1, b2, b3, la, lb⟩ := HBX.out.up HP7.out
         obtain ⟨r0, r1, r2, r3, f0, f1, f2, f3⟩ := (HRS.out.up HP7.out).facts
         have HRS7 := Lib.hid (HRS.out.up HP7.out)
         obtain ⟨s7, A7, n7, c7, t7, F7, m7, k7, rfl, hq1, hq2⟩ := hv7
         have HV7 := Lib.hid hq1
         have HV8 := Lib.hid hq2
         clear hq1 hq2 hu7)))
  have hq := HRS7.out.stored (.int .i64 s7) (.slice A7 n7 c7) (.int .i64 t7) (.slice F7 m7 k7)
  have HVA := Lib.hid (HV7.out.put4 HRS7.out (.int .i64 s7) (.slice A7 n7 c7) (.int .i64 t7) (.slice F7 m7 k7))
  have HVB := Lib.hid (HV8.out.put4 HRS7.out (.int .i64 s7) (.slice A7 n7 c7) (.int .i64 t7) (.slice F7 m7 k7))
  have HUF := Lib.hid ((HU.out.trans HP7.out).put4 (show w.heap.size ≤ w.heap.size + 1 + 1 by omega) (.int .i64 s7) (.slice A7 n7 c7) (.int .i64 t7) (.slice F7 m7 k7))
  unfold put4 at hq HVA HVB HUF
  obtain ⟨hq0, hq1, hq2, hq3⟩ := hq
  go_wp2
  refine bodyPost_ret (by simp [results, Tryz.results120, go_sem, hq0, hq1, hq2, hq3]; try rfl) rfl ?_
  refine ⟨_, rfl, ?_, HUF.out⟩
  rw [HEQ.out]
  exact ⟨_, _, _, _, _, _, _, _, rfl, HVA.out, HVB.out⟩
structure PlusNums (a b : Rat) (g : Nat) (tm sd top : Int) (d : Nat) : Prop where
  hg : (Int.gcd a.den b.den : Nat) = g
  htm : (b.den : Int).tdiv g = tm
  hsd : (a.den : Int).tdiv g = sd
  htop : a.num * tm + b.num * sd = top
  hd : (Int.gcd top g : Nat) = d
  g0 : (g : Int) ≠ 0
  d0 : (d : Int) ≠ 0
  rn : top.tdiv d = (a + b).num
  rd : (a.den : Int).tdiv d * tm = (a + b).den
  btm : bl tm ≤ 16777216
  bsd : bl sd ≤ 16777216
  btop : bl top ≤ 33554433
  bg : bl g ≤ 16777216
  bq : bl ((a.den : Int).tdiv d) ≤ 16777216
theorem plusNums (a b : Rat) (ha : FB a 16777216) (hb : FB b 16777216) : ∃ g tm sd top d, PlusNums a b g tm sd top d := by
  have hrat := rat_plus a b
  have e1 : (Int.gcd a.den b.den : Nat) = a.den.gcd b.den := Int.gcd_natCast_natCast _ _
  obtain ⟨g, hg⟩ : ∃ g, g = a.den.gcd b.den := ⟨_, rfl⟩
  rw [← hg] at hrat
  have hg0 : 0 < g := by rw [hg]; exact Nat.gcd_pos_of_pos_left _ (Nat.pos_of_ne_zero a.den_nz)
  have etm : (b.den : Int).tdiv g = ((b.den / g : Nat) : Int) := rfl
  have esd : (a.den : Int).tdiv g = ((a.den / g : Nat) : Int) := rfl
  obtain ⟨top, htop⟩ : ∃ top : Int, top = a.num * ((b.den / g : Nat) : Int) + b.num * ((a.den / g : Nat) : Int) := ⟨_, rfl⟩
  rw [← htop] at hrat
  have ed : (Int.gcd top g : Nat) = top.natAbs.gcd g := by rw [Int.gcd, Int.natAbs_natCast]
  obtain ⟨d, hd⟩ : ∃ d, d = top.natAbs.gcd g := ⟨_, rfl⟩
  rw [← hd] at hrat
  have hd0 : 0 < d := by rw [hd]; exact Nat.gcd_pos_of_pos_right _ hg0
  have hdt : (d : Int) ∣ top := by rw [hd]; exact Int.ofNat_dvd_left.2 (Nat.gcd_dvd_left _ _)
  refine ⟨g, ((b.den / g : Nat) : Int), ((a.den / g : Nat) : Int), top, d, ?_⟩
  have b1 : bl (((b.den / g : Nat) : Int)) ≤ 16777216 := by rw [← etm]; exact bl_tdiv hb.low
  have b2 : bl (((a.den / g : Nat) : Int)) ≤ 16777216 := by rw [← esd]; exact bl_tdiv ha.low
  exact {
    hg := by rw [e1, hg]
    htm := etm
    hsd := esd
    htop := htop.symm
    hd := by rw [ed, hd]
    g0 := by omega
    d0 := by omega
    rn := by rw [hrat.1, Int.tdiv_eq_ediv_of_dvd hdt]
    rd := by rw [hrat.2, Int.natCast_mul]; rfl
    btm := b1
    bsd := b2
    btop := by rw [htop]; exact bl_add (k := 33554432) (bl_mul ha.top b1 (by omega)) (bl_mul hb.top b2 (by omega)) (by omega)
    bg := by
      rw [hg]
      exact Nat.le_trans (bl_le_of_le (by simp only [Int.natAbs_natCast]; exact Nat.gcd_le_left _ (Nat.pos_of_ne_zero a.den_nz))) ha.low
    bq := bl_tdiv ha.low }
set_option maxHeartbeats 8000000 in
set_option maxRecDepth 10000 in
theorem fracPlus_any (v1 v2 : Value) (a b : Rat) (w : World) (h1 : FV w v1 a) (h2 : FV w v2 b) (ha : FB a 16777216) (hb : FB b 16777216) (ht : Tab w) :
    Calls Tryz.prog 121 #[v1, v2] w fun e w' => ∃ v, e = .returned v ∧ FV w' v (a + b) ∧ Up w w' := by
  obtain ⟨s, A, n, c, t, F, m, k, rfl, hp1, hp2⟩ := h1
  obtain ⟨s2, A2, n2, c2, t2, F2, m2, k2, rfl, hp3, hp4⟩ := h2
  obtain ⟨g, tm, sd, top, d, hN⟩ := plusNums a b ha hb
  have HG1 := Lib.hid (fun W (hu : Up w W) => intGcd_any _ _ a.den b.den W (hp2.up hu) (hp4.up hu) (Nat.le_trans ha.low (by omega)) (Nat.le_trans hb.low (by omega)) (ht.up hu))
  rw [hN.hg] at HG1
  have HQ1 := Lib.hid (fun W v (hu : Up w W) (hv : IV W v (g : Int)) => intQuo_any _ v b.den g W (hp4.up hu) hv (Nat.le_trans hb.low (by omega)) hN.g0)
  rw [hN.htm] at HQ1
  have HT1 := Lib.hid (fun W v (hu : Up w W) (hv : IV W v tm) => intTimes_any _ v a.num tm W (hp1.up hu) hv (Nat.le_trans ha.top (by omega)) (Nat.le_trans hN.btm (by omega)))
  have HQ2 := Lib.hid (fun W v (hu : Up w W) (hv : IV W v (g : Int)) => intQuo_any _ v a.den g W (hp2.up hu) hv (Nat.le_trans ha.low (by omega)) hN.g0)
  rw [hN.hsd] at HQ2
  have HT2 := Lib.hid (fun W v (hu : Up w W) (hv : IV W v sd) => intTimes_any _ v b.num sd W (hp3.up hu) hv (Nat.le_trans hb.top (by omega)) (Nat.le_trans hN.bsd (by omega)))
  have HP := Lib.hid (fun W u1 u2 (hu1 : IV W u1 (a.num * tm)) (hu2 : IV W u2 (b.num * sd)) => intPlus_any u1 u2 _ _ W hu1 hu2 (bl_mul ha.top hN.btm (by omega)) (bl_mul hb.top hN.bsd (by omega)))
  rw [hN.htop] at HP
  have HG2 := Lib.hid (fun W u1 u2 (hu : Up w W) (hu1 : IV W u1 top) (hu2 : IV W u2 (g : Int)) => intGcd_any u1 u2 _ _ W hu1 hu2 (Nat.le_trans hN.btop (by omega)) (Nat.le_trans hN.bg (by omega)) (ht.up hu))
  rw [hN.hd] at HG2
  have HQ3 := Lib.hid (fun W u1 u2 (hu1 : IV W u1 top) (hu2 : IV W u2 (d : Int)) => intQuo_any u1 u2 top d W hu1 hu2 (Nat.le_trans hN.btop (by omega)) hN.d0)
  rw [hN.rn] at HQ3
  have HQ4 := Lib.hid (fun W u2 (hu : Up w W) (hu2 : IV W u2 (d : Int)) => intQuo_any _ u2 a.den d W (hp2.up hu) hu2 (Nat.le_trans ha.low (by omega)) hN.d0)
  have HT3 := Lib.hid (fun W u1 u2 (hu1 : IV W u1 ((a.den : Int).tdiv d)) (hu2 : IV W u2 tm) => intTimes_any u1 u2 _ _ W hu1 hu2 (Nat.le_trans hN.bq (by omega)) (Nat.le_trans hN.btm (by omega)))
  rw [hN.rd] at HT3
  clear hp1 hp2 hp3 hp4 ha hb ht hN
  go_enter Tryz.func121, Tryz.ntmps121
  go_wp2_with fail
  obtain ⟨wB, hwB, hbx, hrs, hu0⟩ := start34 w s (.slice A n c) t (.slice F m k) s2 (.slice A2 n2 c2) t2 (.slice F2 m2 k2)
  rw [hwB]
  clear hwB
  have HBX := Lib.hid hbx
  have HRS := Lib.hid hrs
  have HU := Lib.hid hu0
  have hszB : w.heap.size + 1 + 1 < wB.heap.size := hrs.lt
  obtain ⟨a0, a1, a2, a3, b0, b1, b2, b3, la, lb⟩ := HBX.out
  clear hbx hrs hu0
  go_wp2_with fail
  refine (HG1.out _ HU.out).mono ?_
  rintro e w1 ⟨v3, rfl, hv3, hu1⟩
  obtain ⟨s3, A3, n3, c3, rfl, -, -, -, -, -⟩ := hv3.open_
  have HP1 := Lib.hid (hu1.trans (Up.alloc w1 (.cells #[.int .i64 s3, .slice A3 n3 c3] 108)))
  have HC1 := Lib.hid (Cell2.new w1 s3 A3 n3 c3)
  have HV1 := Lib.hid (hv3.up (Up.alloc w1 (.cells #[.int .i64 s3, .slice A3 n3 c3] 108)))
  have hs1 := hu1.size
  clear hu1 hv3 a0 a1 a2 a3 b0 b1 b2 b3 la lb
  obtain ⟨a0, a1, a2, a3, b0, b1, b2, b3, la, lb⟩ := HBX.out.up HP1.out
  go_wp2_with fail
  refine (HQ1.out _ _ (HU.out.trans HP1.out) HV1.out).mono ?_
  rintro e w2 ⟨v4, rfl, hv4, hu2⟩
  obtain ⟨s4, A4, n4, c4, rfl, -, -, -, -, -⟩ := hv4.open_
  have hs2 := hu2.size
  have huX := hu2.trans (Up.alloc w2 (.cells #[.int .i64 s4, .slice A4 n4 c4] 108))
  have HP2 := Lib.hid (HP1.out.trans huX)
  have HC1b := Lib.hid (HC1.out.up huX)
  have HV1b := Lib.hid (HV1.out.up huX)
  have HC2 := Lib.hid (Cell2.new w2 s4 A4 n4 c4)
  have HV2 := Lib.hid (hv4.up (Up.alloc w2 (.cells #[.int .i64 s4, .slice A4 n4 c4] 108)))
  clear hu2 hv4 huX a0 a1 a2 a3 b0 b1 b2 b3 la lb HC1 HV1 HP1
  have hs2' : w1.heap.size + 1 ≤ w2.heap.size := by simpa using hs2
  clear hs2
  go_wp2_with fail
  obtain ⟨w3, hw3⟩ : ∃ w3, w3 = w2.alloc (.cells #[.int .i64 s4, .slice A4 n4 c4] 108) := ⟨_, rfl⟩
  rw [← hw3] at HP2 HC1b HV1b HC2 HV2 ⊢
  clear hw3
  obtain ⟨a0, a1, a2, a3, b0, b1, b2, b3, la, lb⟩ := HBX.out.up HP2.out
  obtain ⟨c0, c1, -, -, lc⟩ := HC1b.out.facts
  obtain ⟨d0, d1, -, -, ld⟩ := HC2.out.facts
  obtain ⟨nx1, nx2⟩ := And.intro (lt_ne la) (lt_ne' la)
  obtain ⟨nx3, nx4⟩ := And.intro (lt_ne lb) (lt_ne' lb)
  obtain ⟨nx5, nx6⟩ := And.intro (lt_ne lc) (lt_ne' lc)
  obtain ⟨nx7, nx8⟩ := And.intro (lt_ne ld) (lt_ne' ld)
  go_cut [7] (fun p7 wx => ∃ g7 s7 A7 n7 c7, p7 = .pointer (some ⟨g7, 0, none⟩) ∧ Cell2 wx g7 s7 A7 n7 c7 ∧ IV wx (.agg #[.int .i64 s7, .slice A7 n7 c7]) top ∧ Up w3 wx ∧ w3.heap.size ≤ g7)
  case first =>
    go_region_held3 (fun w' => w'.cell? ⟨w.heap.size, 0, none⟩ = some (.int .i64 s) ∧ w'.cell? ⟨w.heap.size, 1, none⟩ = some (.slice A n c) ∧ w'.cell? ⟨w.heap.size, 2, none⟩ = some (.int .i64 t) ∧ w'.cell? ⟨w.heap.size, 3, none⟩ = some (.slice F m k) ∧ w'.cell? ⟨w.heap.size + 1, 0, none⟩ = some (.int .i64 s2) ∧ w'.cell? ⟨w.heap.size + 1, 1, none⟩ = some (.slice A2 n2 c2) ∧ w'.cell? ⟨w1.heap.size, 0, none⟩ = some (.int .i64 s3) ∧ w'.cell? ⟨w1.heap.size, 1, none⟩ = some (.slice A3 n3 c3) ∧ w'.cell? ⟨w2.heap.size, 0, none⟩ = some (.int .i64 s4) ∧ w'.cell? ⟨w2.heap.size, 1, none⟩ = some (.slice A4 n4 c4)) (go_keep)
      ((first
        | (go_at_call_of 140 (Value.int IntKind.i64 s)
           refine (HT1.out _ _ (by (repeat (first | exact Below.refl _ _ | exact Hid.out (by assumption) | refine Up.trans ?_ (Up.drew _) | refine Up.trans ?_ (Up.drewN _ _) | refine Up.trans ?_ (Up.alloc _ _) | refine Up.trans ?_ (Hid.out (by assumption))))) (by (refine IV.up (Hid.out (by assumption)) ?_; (repeat (first | exact Below.refl _ _ | exact Hid.out (by assumption) | refine Up.trans ?_ (Up.drew _) | refine Up.trans ?_ (Up.drewN _ _) | refine Up.trans ?_ (Up.alloc _ _) | refine Up.trans ?_ (Hid.out (by assumption))))))).mono ?_
           rintro e w5 ⟨v5, rfl, hv, hu⟩
           try (have HZ : Go.RowKit.Hid (Cell2 w5 w3.heap.size 0 none 0 0) := Cell2.up (Cell2.new w3.drew 0 none 0 0) hu)
           try (have HZ := Lib.hid (Cell2.up HZ.out hu))
           try (obtain ⟨z0, z1, y0, y1, lz⟩ := HZ.out.facts)
           have HUw5 := Lib.hid hu
           obtain ⟨a0, a1, a2, a3, b0, b1, b2, b3, la, lb⟩ := HBX.out.up (w' := w5) (by (repeat (first | exact Below.refl _ _ | exact Hid.out (by assumption) | refine Up.trans ?_ (Up.drew _) | refine Up.trans ?_ (Up.drewN _ _) | refine Up.trans ?_ (Up.alloc _ _) | refine Up.trans ?_ (Hid.out (by assumption)))))
           obtain ⟨c0, c1, -, -, lc⟩ := (HC1b.out.up (w' := w5) (by (repeat (first | exact Below.refl _ _ | exact Hid.out (by assumption) | refine Up.trans ?_ (Up.drew _) | refine Up.trans ?_ (Up.drewN _ _) | refine Up.trans ?_ (Up.alloc _ _) | refine Up.trans ?_ (Hid.out (by assumption)))))).facts
           obtain ⟨d0, d1, -, -, ld⟩ := (HC2.out.up (w' := w5) (by (repeat (first | exact Below.refl _ _ | exact Hid.out (by assumption) | refine Up.trans ?_ (Up.drew _) | refine Up.trans ?_ (Up.drewN _ _) | refine Up.trans ?_ (Up.alloc _ _) | refine Up.trans ?_ (Hid.out (by assumption)))))).facts
           obtain ⟨nx1, nx2⟩ := And.intro (lt_ne la) (lt_ne' la)
           obtain ⟨nx3, nx4⟩ := And.intro (lt_ne lb) (lt_ne' lb)
           obtain ⟨nx5, nx6⟩ := And.intro (lt_ne lc) (lt_ne' lc)
           obtain ⟨nx7, nx8⟩ := And.intro (lt_ne ld) (lt_ne' ld)
           obtain ⟨sw5, Aw5, nw5, cw5, rfl, -, -, -, -, -⟩ := hv.open_
           have HVw5 := Lib.hid hv
           clear hv hu)
        | (go_at_call 102
           refine (HQ2.out _ _ (by (repeat (first | exact Below.refl _ _ | exact Hid.out (by assumption) | refine Up.trans ?_ (Up.drew _) | refine Up.trans ?_ (Up.drewN _ _) | refine Up.trans ?_ (Up.alloc _ _) | refine Up.trans ?_ (Hid.out (by assumption))))) (by (refine IV.up (Hid.out (by assumption)) ?_; (repeat (first | exact Below.refl _ _ | exact Hid.out (by assumption) | refine Up.trans ?_ (Up.drew _) | refine Up.trans ?_ (Up.drewN _ _) | refine Up.trans ?_ (Up.alloc _ _) | refine Up.trans ?_ (Hid.out (by assumption))))))).mono ?_
           rintro e w6 ⟨v6, rfl, hv, hu⟩
           try (have HZ := Lib.hid (Cell2.up (Cell2.new _ 0 none 0 0) hu))
           try (have HZ := Lib.hid (Cell2.up HZ.out hu))
           try (obtain ⟨z0, z1, y0, y1, lz⟩ := HZ.out.facts)
           have HUw6 := Lib.hid hu
           obtain ⟨a0, a1, a2, a3, b0, b1, b2, b3, la, lb⟩ := HBX.out.up (w' := w6) (by (repeat (first | exact Below.refl _ _ | exact Hid.out (by assumption) | refine Up.trans ?_ (Up.drew _) | refine Up.trans ?_ (Up.drewN _ _) | refine Up.trans ?_ (Up.alloc _ _) | refine Up.trans ?_ (Hid.out (by assumption)))))
           obtain ⟨c0, c1, -, -, lc⟩ := (HC1b.out.up (w' := w6) (by (repeat (first | exact Below.refl _ _ | exact Hid.out (by assumption) | refine Up.trans ?_ (Up.drew _) | refine Up.trans ?_ (Up.drewN _ _) | refine Up.trans ?_ (Up.alloc _ _) | refine Up.trans ?_ (Hid.out (by assumption)))))).facts
           obtain ⟨d0, d1, -, -, ld⟩ := (HC2.out.up (w' := w6) (by (repeat (first | exact Below.refl _ _ | exact Hid.out (by assumption) | refine Up.trans ?_ (Up.drew _) | refine Up.trans ?_ (Up.drewN _ _) | refine Up.trans ?_ (Up.alloc _ _) | refine Up.trans ?_ (Hid.out (by assumption)))))).facts
           obtain ⟨nx1, nx2⟩ := And.intro (lt_ne la) (lt_ne' la)
           obtain ⟨nx3, nx4⟩ := And.intro (lt_ne lb) (lt_ne' lb)
           obtain ⟨nx5, nx6⟩ := And.intro (lt_ne lc) (lt_ne' lc)
           obtain ⟨nx7, nx8⟩ := And.intro (lt_ne ld) (lt_ne' ld)
           obtain ⟨sw6, Aw6, nw6, cw6, rfl, -, -, -, -, -⟩ := hv.open_
           have HVw6 := Lib.hid hv
           clear hv hu)
        | (go_at_call_of 140 (Value.int IntKind.i64 s2)
           refine (HT2.out _ _ (by (repeat (first | exact Below.refl _ _ | exact Hid.out (by assumption) | refine Up.trans ?_ (Up.drew _) | refine Up.trans ?_ (Up.drewN _ _) | refine Up.trans ?_ (Up.alloc _ _) | refine Up.trans ?_ (Hid.out (by assumption))))) (by (refine IV.up (Hid.out (by assumption)) ?_; (repeat (first | exact Below.refl _ _ | exact Hid.out (by assumption) | refine Up.trans ?_ (Up.drew _) | refine Up.trans ?_ (Up.drewN _ _) | refine Up.trans ?_ (Up.alloc _ _) | refine Up.trans ?_ (Hid.out (by assumption))))))).mono ?_
           rintro e w7 ⟨v7, rfl, hv, hu⟩
           try (have HZ := Lib.hid (Cell2.up (Cell2.new _ 0 none 0 0) hu))
           try (have HZ := Lib.hid (Cell2.up HZ.out hu))
           try (obtain ⟨z0, z1, y0, y1, lz⟩ := HZ.out.facts)
           have HUw7 := Lib.hid hu
           obtain ⟨a0, a1, a2, a3, b0, b1, b2, b3, la, lb⟩ := HBX.out.up (w' := w7) (by (repeat (first | exact Below.refl _ _ | exact Hid.out (by assumption) | refine Up.trans ?_ (Up.drew _) | refine Up.trans ?_ (Up.drewN _ _) | refine Up.trans ?_ (Up.alloc _ _) | refine Up.trans ?_ (Hid.out (by assumption)))))
           obtain ⟨c0, c1, -, -, lc⟩ := (HC1b.out.up (w' := w7) (by (repeat (first | exact Below.refl _ _ | exact Hid.out (by assumption) | refine Up.trans ?_ (Up.drew _) | refine Up.trans ?_ (Up.drewN _ _) | refine Up.trans ?_ (Up.alloc _ _) | refine Up.trans ?_ (Hid.out (by assumption)))))).facts
           obtain ⟨d0, d1, -, -, ld⟩ := (HC2.out.up (w' := w7) (by (repeat (first | exact Below.refl _ _ | exact Hid.out (by assumption) | refine Up.trans ?_ (Up.drew _) | refine Up.trans ?_ (Up.drewN _ _) | refine Up.trans ?_ (Up.alloc _ _) | refine Up.trans ?_ (Hid.out (by assumption)))))).facts
           obtain ⟨nx1, nx2⟩ := And.intro (lt_ne la) (lt_ne' la)
           obtain ⟨nx3, nx4⟩ := And.intro (lt_ne lb) (lt_ne' lb)
           obtain ⟨nx5, nx6⟩ := And.intro (lt_ne lc) (lt_ne' lc)
           obtain ⟨nx7, nx8⟩ := And.intro (lt_ne ld) (lt_ne' ld)
           obtain ⟨sw7, Aw7, nw7, cw7, rfl, -, -, -, -, -⟩ := hv.open_
           have HVw7 := Lib.hid hv
           clear hv hu)
        | (go_at_call 141
           refine (HP.out _ _ _ (by (refine IV.up (Hid.out (by assumption)) ?_; (repeat (first | exact Below.refl _ _ | exact Hid.out (by assumption) | refine Up.trans ?_ (Up.drew _) | refine Up.trans ?_ (Up.drewN _ _) | refine Up.trans ?_ (Up.alloc _ _) | refine Up.trans ?_ (Hid.out (by assumption)))))) (by (refine IV.up (Hid.out (by assumption)) ?_; (repeat (first | exact Below.refl _ _ | exact Hid.out (by assumption) | refine Up.trans ?_ (Up.drew _) | refine Up.trans ?_ (Up.drewN _ _) | refine Up.trans ?_ (Up.alloc _ _) | refine Up.trans ?_ (Hid.out (by assumption))))))).mono ?_
           rintro e w8 ⟨v8, rfl, hv, hu⟩
           try (have HZ := Lib.hid (Cell2.up (Cell2.new _ 0 none 0 0) hu))
           try (have HZ := Lib.hid (Cell2.up HZ.out hu))
           try (obtain ⟨z0, z1, y0, y1, lz⟩ := HZ.out.facts)
           have HUw8 := Lib.hid hu
           obtain ⟨a0, a1, a2, a3, b0, b1, b2, b3, la, lb⟩ := HBX.out.up (w' := w8) (by (repeat (first | exact Below.refl _ _ | exact Hid.out (by assumption) | refine Up.trans ?_ (Up.drew _) | refine Up.trans ?_ (Up.drewN _ _) | refine Up.trans ?_ (Up.alloc _ _) | refine Up.trans ?_ (Hid.out (by assumption)))))
           obtain ⟨c0, c1, -, -, lc⟩ := (HC1b.out.up (w' := w8) (by (repeat (first | exact Below.refl _ _ | exact Hid.out (by assumption) | refine Up.trans ?_ (Up.drew _) | refine Up.trans ?_ (Up.drewN _ _) | refine Up.trans ?_ (Up.alloc _ _) | refine Up.trans ?_ (Hid.out (by assumption)))))).facts
           obtain ⟨d0, d1, -, -, ld⟩ := (HC2.out.up (w' := w8) (by (repeat (first | exact Below.refl _ _ | exact Hid.out (by assumption) | refine Up.trans ?_ (Up.drew _) | refine Up.trans ?_ (Up.drewN _ _) | refine Up.trans ?_ (Up.alloc _ _) | refine Up.trans ?_ (Hid.out (by assumption)))))).facts
           obtain ⟨nx1, nx2⟩ := And.intro (lt_ne la) (lt_ne' la)
           obtain ⟨nx3, nx4⟩ := And.intro (lt_ne lb) (lt_ne' lb)
           obtain ⟨nx5, nx6⟩ := And.intro (lt_ne lc) (lt_ne' lc)
           obtain ⟨nx7, nx8⟩ := And.intro (lt_ne ld) (lt_ne' ld)
           obtain ⟨sw8, Aw8, nw8, cw8, rfl, -, -, -, -, -⟩ := hv.open_
           have HVw8 := Lib.hid hv
           clear hv hu)))
    all_goals (go_wp2_with fail; go_meet)
    all_goals first
      | exact ⟨_, _, _, _, _, rfl, Cell2.new _ _ _ _ _, by (refine IV.up (Hid.out (by assumption)) ?_; (repeat (first | exact Below.refl _ _ | exact Hid.out (by assumption) | refine Up.trans ?_ (Up.drew _) | refine Up.trans ?_ (Up.drewN _ _) | refine Up.trans ?_ (Up.alloc _ _) | refine Up.trans ?_ (Hid.out (by assumption))))), by (repeat (first | exact Below.refl _ _ | exact Hid.out (by assumption) | refine Up.trans ?_ (Up.drew _) | refine Up.trans ?_ (Up.drewN _ _) | refine Up.trans ?_ (Up.alloc _ _) | refine Up.trans ?_ (Hid.out (by assumption)))), (by first | exact Nat.le_refl _ | exact (show Up w3 w5 by (repeat (first | exact Below.refl _ _ | exact Hid.out (by assumption) | refine Up.trans ?_ (Up.drew _) | refine Up.trans ?_ (Up.drewN _ _) | refine Up.trans ?_ (Up.alloc _ _) | refine Up.trans ?_ (Hid.out (by assumption))))).size | exact (show Up w3 w6 by (repeat (first | exact Below.refl _ _ | exact Hid.out (by assumption) | refine Up.trans ?_ (Up.drew _) | refine Up.trans ?_ (Up.drewN _ _) | refine Up.trans ?_ (Up.alloc _ _) | refine Up.trans ?_ (Hid.out (by assumption))))).size | exact (show Up w3 w7 by (repeat (first | exact Below.refl _ _ | exact Hid.out (by assumption) | refine Up.trans ?_ (Up.drew _) | refine Up.trans ?_ (Up.drewN _ _) | refine Up.trans ?_ (Up.alloc _ _) | refine Up.trans ?_ (Hid.out (by assumption))))).size | exact (show Up w3 w8 by (repeat (first | exact Below.refl _ _ | exact Hid.out (by assumption) | refine Up.trans ?_ (Up.drew _) | refine Up.trans ?_ (Up.drewN _ _) | refine Up.trans ?_ (Up.alloc _ _) | refine Up.trans ?_ (Hid.out (by assumption))))).size)⟩
      | exact ⟨_, _, _, _, _, rfl, HZ.out.set _ _ _ _, HVw8.out.set2 HZ.out.not_digit _ _, Up.stored (show Up w3 w8 by (repeat (first | exact Below.refl _ _ | exact Hid.out (by assumption) | refine Up.trans ?_ (Up.drew _) | refine Up.trans ?_ (Up.drewN _ _) | refine Up.trans ?_ (Up.alloc _ _) | refine Up.trans ?_ (Hid.out (by assumption))))) (by first | exact Nat.le_refl _ | exact (show Up w3 w5 by (repeat (first | exact Below.refl _ _ | exact Hid.out (by assumption) | refine Up.trans ?_ (Up.drew _) | refine Up.trans ?_ (Up.drewN _ _) | refine Up.trans ?_ (Up.alloc _ _) | refine Up.trans ?_ (Hid.out (by assumption))))).size | exact (show Up w3 w6 by (repeat (first | exact Below.refl _ _ | exact Hid.out (by assumption) | refine Up.trans ?_ (Up.drew _) | refine Up.trans ?_ (Up.drewN _ _) | refine Up.trans ?_ (Up.alloc _ _) | refine Up.trans ?_ (Hid.out (by assumption))))).size | exact (show Up w3 w7 by (repeat (first | exact Below.refl _ _ | exact Hid.out (by assumption) | refine Up.trans ?_ (Up.drew _) | refine Up.trans ?_ (Up.drewN _ _) | refine Up.trans ?_ (Up.alloc _ _) | refine Up.trans ?_ (Hid.out (by assumption))))).size | exact (show Up w3 w8 by (repeat (first | exact Below.refl _ _ | exact Hid.out (by assumption) | refine Up.trans ?_ (Up.drew _) | refine Up.trans ?_ (Up.drewN _ _) | refine Up.trans ?_ (Up.alloc _ _) | refine Up.trans ?_ (Hid.out (by assumption))))).size) _ _, (by first | exact Nat.le_refl _ | exact (show Up w3 w5 by (repeat (first | exact Below.refl _ _ | exact Hid.out (by assumption) | refine Up.trans ?_ (Up.drew _) | refine Up.trans ?_ (Up.drewN _ _) | refine Up.trans ?_ (Up.alloc _ _) | refine Up.trans ?_ (Hid.out (by assumption))))).size | exact (show Up w3 w6 by (repeat (first | exact Below.refl _ _ | exact Hid.out (by assumption) | refine Up.trans ?_ (Up.drew _) | refine Up.trans ?_ (Up.drewN _ _) | refine Up.trans ?_ (Up.alloc _ _) | refine Up.trans ?_ (Hid.out (by assumption))))).size | exact (show Up w3 w7 by (repeat (first | exact Below.refl _ _ | exact Hid.out (by assumption) | refine Up.trans ?_ (Up.drew _) | refine Up.trans ?_ (Up.drewN _ _) | refine Up.trans ?_ (Up.alloc _ _) | refine Up.trans ?_ (Hid.out (by assumption))))).size | exact (show Up w3 w8 by (repeat (first | exact Below.refl _ _ | exact Hid.out (by assumption) | refine Up.trans ?_ (Up.drew _) | refine Up.trans ?_ (Up.drewN _ _) | refine Up.trans ?_ (Up.alloc _ _) | refine Up.trans ?_ (Hid.out (by assumption))))).size)⟩
  case rest =>
    obtain ⟨g7, s7, A7, n7, c7, rfl, hc7, hv7, hu7, hg7⟩ := hcut
    have HC7 := Lib.hid hc7
    have HV7 := Lib.hid hv7
    have HP3 := Lib.hid hu7
    clear hc7 hv7 hu7 a0 a1 a2 a3 b0 b1 b2 b3 la lb c0 c1 lc d0 d1 ld nx1 nx2 nx3 nx4 nx5 nx6 nx7 nx8
    obtain ⟨a0, a1, a2, a3, b0, b1, b2, b3, la, lb⟩ := HBX.out.up (w' := wc) (by (repeat (first | exact Below.refl _ _ | exact Hid.out (by assumption) | refine Up.trans ?_ (Up.drew _) | refine Up.trans ?_ (Up.drewN _ _) | refine Up.trans ?_ (Up.alloc _ _) | refine Up.trans ?_ (Hid.out (by assumption)))))
    obtain ⟨c0, c1, -, -, lc⟩ := (HC1b.out.up (w' := wc) (by (repeat (first | exact Below.refl _ _ | exact Hid.out (by assumption) | refine Up.trans ?_ (Up.drew _) | refine Up.trans ?_ (Up.drewN _ _) | refine Up.trans ?_ (Up.alloc _ _) | refine Up.trans ?_ (Hid.out (by assumption)))))).facts
    obtain ⟨d0, d1, -, -, ld⟩ := (HC2.out.up (w' := wc) (by (repeat (first | exact Below.refl _ _ | exact Hid.out (by assumption) | refine Up.trans ?_ (Up.drew _) | refine Up.trans ?_ (Up.drewN _ _) | refine Up.trans ?_ (Up.alloc _ _) | refine Up.trans ?_ (Hid.out (by assumption)))))).facts
    obtain ⟨e0, e1, -, -, le⟩ := HC7.out.facts
    go_wp2_with fail
    refine Calls.mono (HG2.out _ _ _ (by (repeat (first | exact Below.refl _ _ | exact Hid.out (by assumption) | refine Up.trans ?_ (Up.drew _) | refine Up.trans ?_ (Up.drewN _ _) | refine Up.trans ?_ (Up.alloc _ _) | refine Up.trans ?_ (Hid.out (by assumption))))) (by (refine IV.up (Hid.out (by assumption)) ?_; (repeat (first | exact Below.refl _ _ | exact Hid.out (by assumption) | refine Up.trans ?_ (Up.drew _) | refine Up.trans ?_ (Up.drewN _ _) | refine Up.trans ?_ (Up.alloc _ _) | refine Up.trans ?_ (Hid.out (by assumption)))))) (by (refine IV.up (Hid.out (by assumption)) ?_; (repeat (first | exact Below.refl _ _ | exact Hid.out (by assumption) | refine Up.trans ?_ (Up.drew _) | refine Up.trans ?_ (Up.drewN _ _) | refine Up.trans ?_ (Up.alloc _ _) | refine Up.trans ?_ (Hid.out (by assumption))))))) ?_
    rintro e w9 ⟨v9, rfl, hv9, hu9⟩
    obtain ⟨s9, A9, n9, c9, rfl, -, -, -, -, -⟩ := hv9.open_
    have hsz9 := hu9.size
    obtain ⟨wd, hwd⟩ : ∃ wd, wd = w9.alloc (.cells #[.int .i64 s9, .slice A9 n9 c9] 108) := ⟨_, rfl⟩
    have hu10 : Up wc wd := by rw [hwd]; exact hu9.trans (Up.alloc _ _)
    have HC9 := Lib.hid (show Cell2 wd w9.heap.size s9 A9 n9 c9 by rw [hwd]; exact Cell2.new _ _ _ _ _)
    have HV9 := Lib.hid (hv9.up (show Up w9 wd by rw [hwd]; exact Up.alloc _ _))
    have HP4 := Lib.hid hu10
    clear hv9 hu9 hu10 a0 a1 a2 a3 b0 b1 b2 b3 la lb c0 c1 lc d0 d1 ld e0 e1
    obtain ⟨a0, a1, a2, a3, b0, b1, b2, b3, la, lb⟩ := HBX.out.up (w' := wd) (by (repeat (first | exact Below.refl _ _ | exact Hid.out (by assumption) | refine Up.trans ?_ (Up.drew _) | refine Up.trans ?_ (Up.drewN _ _) | refine Up.trans ?_ (Up.alloc _ _) | refine Up.trans ?_ (Hid.out (by assumption)))))
    obtain ⟨c0, c1, -, -, lc⟩ := (HC1b.out.up (w' := wd) (by (repeat (first | exact Below.refl _ _ | exact Hid.out (by assumption) | refine Up.trans ?_ (Up.drew _) | refine Up.trans ?_ (Up.drewN _ _) | refine Up.trans ?_ (Up.alloc _ _) | refine Up.trans ?_ (Hid.out (by assumption)))))).facts
    obtain ⟨d0, d1, -, -, ld⟩ := (HC2.out.up (w' := wd) (by (repeat (first | exact Below.refl _ _ | exact Hid.out (by assumption) | refine Up.trans ?_ (Up.drew _) | refine Up.trans ?_ (Up.drewN _ _) | refine Up.trans ?_ (Up.alloc _ _) | refine Up.trans ?_ (Hid.out (by assumption)))))).facts
    obtain ⟨e0, e1, -, -, le'⟩ := (HC7.out.up (w' := wd) (by (repeat (first | exact Below.refl _ _ | exact Hid.out (by assumption) | refine Up.trans ?_ (Up.drew _) | refine Up.trans ?_ (Up.drewN _ _) | refine Up.trans ?_ (Up.alloc _ _) | refine Up.trans ?_ (Hid.out (by assumption)))))).facts
    obtain ⟨f0, f1, -, -, lf⟩ := HC9.out.facts
    go_wp2_with fail
    rw [← hwd]
    clear hwd
    have hsz2 : w2.heap.size < w3.heap.size := HC2.out.lt
    have q1 : (w.heap.size = w.heap.size + 1 + 1) = False := by simp; omega
    have q2 : (w.heap.size + 1 + 1 = w.heap.size) = False := by simp; omega
    have q3 : (w1.heap.size = w.heap.size + 1 + 1) = False := by simp; omega
    have q4 : (w.heap.size + 1 + 1 = w1.heap.size) = False := by simp; omega
    have q5 : (w2.heap.size = w.heap.size + 1 + 1) = False := by simp; omega
    have q6 : (w.heap.size + 1 + 1 = w2.heap.size) = False := by simp; omega
    have q7 : (g7 = w.heap.size + 1 + 1) = False := by simp; omega
    have q8 : (w.heap.size + 1 + 1 = g7) = False := by simp; omega
    have q9 : (w9.heap.size = w.heap.size + 1 + 1) = False := by simp; omega
    have q10 : (w.heap.size + 1 + 1 = w9.heap.size) = False := by simp; omega
    go_region_held3 (fun w' => w'.cell? ⟨w.heap.size, 2, none⟩ = some (.int .i64 t) ∧ w'.cell? ⟨w.heap.size, 3, none⟩ = some (.slice F m k) ∧ w'.cell? ⟨w2.heap.size, 0, none⟩ = some (.int .i64 s4) ∧ w'.cell? ⟨w2.heap.size, 1, none⟩ = some (.slice A4 n4 c4) ∧ w'.cell? ⟨g7, 0, none⟩ = some (.int .i64 s7) ∧ w'.cell? ⟨g7, 1, none⟩ = some (.slice A7 n7 c7) ∧ w'.cell? ⟨w9.heap.size, 0, none⟩ = some (.int .i64 s9) ∧ w'.cell? ⟨w9.heap.size, 1, none⟩ = some (.slice A9 n9 c9)) (go_keep)
      ((first
        | (go_at_call_of 102 (Value.int IntKind.i64 s7)
           refine Calls.mono (HQ3.out _ _ _ (by (refine IV.up (Hid.out (by assumption)) ?_; (repeat (first | exact Below.refl _ _ | exact Hid.out (by assumption) | refine Up.trans ?_ (Up.drew _) | refine Up.trans ?_ (Up.drewN _ _) | refine Up.trans ?_ (Up.alloc _ _) | refine Up.trans ?_ (Hid.out (by assumption)))))) (by (refine IV.up (Hid.out (by assumption)) ?_; (repeat (first | exact Below.refl _ _ | exact Hid.out (by assumption) | refine Up.trans ?_ (Up.drew _) | refine Up.trans ?_ (Up.drewN _ _) | refine Up.trans ?_ (Up.alloc _ _) | refine Up.trans ?_ (Hid.out (by assumption))))))) ?_
           rintro e w5 ⟨v5, rfl, hv, hu⟩
           have HUw5 := Lib.hid hu
           obtain ⟨a0, a1, a2, a3, b0, b1, b2, b3, la, lb⟩ := HBX.out.up (w' := w5) (by (repeat (first | exact Below.refl _ _ | exact Hid.out (by assumption) | refine Up.trans ?_ (Up.drew _) | refine Up.trans ?_ (Up.drewN _ _) | refine Up.trans ?_ (Up.alloc _ _) | refine Up.trans ?_ (Hid.out (by assumption)))))
           obtain ⟨d0, d1, -, -, ld⟩ := (HC2.out.up (w' := w5) (by (repeat (first | exact Below.refl _ _ | exact Hid.out (by assumption) | refine Up.trans ?_ (Up.drew _) | refine Up.trans ?_ (Up.drewN _ _) | refine Up.trans ?_ (Up.alloc _ _) | refine Up.trans ?_ (Hid.out (by assumption)))))).facts
           obtain ⟨e0, e1, -, -, le'⟩ := (HC7.out.up (w' := w5) (by (repeat (first | exact Below.refl _ _ | exact Hid.out (by assumption) | refine Up.trans ?_ (Up.drew _) | refine Up.trans ?_ (Up.drewN _ _) | refine Up.trans ?_ (Up.alloc _ _) | refine Up.trans ?_ (Hid.out (by assumption)))))).facts
           obtain ⟨f0, f1, -, -, lf⟩ := (HC9.out.up (w' := w5) (by (repeat (first | exact Below.refl _ _ | exact Hid.out (by assumption) | refine Up.trans ?_ (Up.drew _) | refine Up.trans ?_ (Up.drewN _ _) | refine Up.trans ?_ (Up.alloc _ _) | refine Up.trans ?_ (Hid.out (by assumption)))))).facts
           obtain ⟨sw5, Aw5, nw5, cw5, rfl, -, -, -, -, -⟩ := hv.open_
           have HVw5 := Lib.hid hv
           clear hv hu)
        | (go_at_call_of 102 (Value.int IntKind.i64 t)
           refine Calls.mono (HQ4.out _ _ (by (repeat (first | exact Below.refl _ _ | exact Hid.out (by assumption) | refine Up.trans ?_ (Up.drew _) | refine Up.trans ?_ (Up.drewN _ _) | refine Up.trans ?_ (Up.alloc _ _) | refine Up.trans ?_ (Hid.out (by assumption))))) (by (refine IV.up (Hid.out (by assumption)) ?_; (repeat (first | exact Below.refl _ _ | exact Hid.out (by assumption) | refine Up.trans ?_ (Up.drew _) | refine Up.trans ?_ (Up.drewN _ _) | refine Up.trans ?_ (Up.alloc _ _) | refine Up.trans ?_ (Hid.out (by assumption))))))) ?_
           rintro e w6 ⟨v6, rfl, hv, hu⟩
           have HUw6 := Lib.hid hu
           obtain ⟨a0, a1, a2, a3, b0, b1, b2, b3, la, lb⟩ := HBX.out.up (w' := w6) (by (repeat (first | exact Below.refl _ _ | exact Hid.out (by assumption) | refine Up.trans ?_ (Up.drew _) | refine Up.trans ?_ (Up.drewN _ _) | refine Up.trans ?_ (Up.alloc _ _) | refine Up.trans ?_ (Hid.out (by assumption)))))
           obtain ⟨d0, d1, -, -, ld⟩ := (HC2.out.up (w' := w6) (by (repeat (first | exact Below.refl _ _ | exact Hid.out (by assumption) | refine Up.trans ?_ (Up.drew _) | refine Up.trans ?_ (Up.drewN _ _) | refine Up.trans ?_ (Up.alloc _ _) | refine Up.trans ?_ (Hid.out (by assumption)))))).facts
           obtain ⟨e0, e1, -, -, le'⟩ := (HC7.out.up (w' := w6) (by (repeat (first | exact Below.refl _ _ | exact Hid.out (by assumption) | refine Up.trans ?_ (Up.drew _) | refine Up.trans ?_ (Up.drewN _ _) | refine Up.trans ?_ (Up.alloc _ _) | refine Up.trans ?_ (Hid.out (by assumption)))))).facts
           obtain ⟨f0, f1, -, -, lf⟩ := (HC9.out.up (w' := w6) (by (repeat (first | exact Below.refl _ _ | exact Hid.out (by assumption) | refine Up.trans ?_ (Up.drew _) | refine Up.trans ?_ (Up.drewN _ _) | refine Up.trans ?_ (Up.alloc _ _) | refine Up.trans ?_ (Hid.out (by assumption)))))).facts
           obtain ⟨sw6, Aw6, nw6, cw6, rfl, -, -, -, -, -⟩ := hv.open_
           have HVw6 := Lib.hid hv
           clear hv hu)
        | (go_at_call 140
           refine Calls.mono (HT3.out _ _ _ (by (refine IV.up (Hid.out (by assumption)) ?_; (repeat (first | exact Below.refl _ _ | exact Hid.out (by assumption) | refine Up.trans ?_ (Up.drew _) | refine Up.trans ?_ (Up.drewN _ _) | refine Up.trans ?_ (Up.alloc _ _) | refine Up.trans ?_ (Hid.out (by assumption)))))) (by (refine IV.up (Hid.out (by assumption)) ?_; (repeat (first | exact Below.refl _ _ | exact Hid.out (by assumption) | refine Up.trans ?_ (Up.drew _) | refine Up.trans ?_ (Up.drewN _ _) | refine Up.trans ?_ (Up.alloc _ _) | refine Up.trans ?_ (Hid.out (by assumption))))))) ?_
           rintro e w8 ⟨v8, rfl, hv, hu⟩
           have HUw8 := Lib.hid hu
           obtain ⟨a0, a1, a2, a3, b0, b1, b2, b3, la, lb⟩ := HBX.out.up (w' := w8) (by (repeat (first | exact Below.refl _ _ | exact Hid.out (by assumption) | refine Up.trans ?_ (Up.drew _) | refine Up.trans ?_ (Up.drewN _ _) | refine Up.trans ?_ (Up.alloc _ _) | refine Up.trans ?_ (Hid.out (by assumption)))))
           obtain ⟨d0, d1, -, -, ld⟩ := (HC2.out.up (w' := w8) (by (repeat (first | exact Below.refl _ _ | exact Hid.out (by assumption) | refine Up.trans ?_ (Up.drew _) | refine Up.trans ?_ (Up.drewN _ _) | refine Up.trans ?_ (Up.alloc _ _) | refine Up.trans ?_ (Hid.out (by assumption)))))).facts
           obtain ⟨e0, e1, -, -, le'⟩ := (HC7.out.up (w' := w8) (by (repeat (first | exact Below.refl _ _ | exact Hid.out (by assumption) | refine Up.trans ?_ (Up.drew _) | refine Up.trans ?_ (Up.drewN _ _) | refine Up.trans ?_ (Up.alloc _ _) | refine Up.trans ?_ (Hid.out (by assumption)))))).facts
           obtain ⟨f0, f1, -, -, lf⟩ := (HC9.out.up (w' := w8) (by (repeat (first | exact Below.refl _ _ | exact Hid.out (by assumption) | refine Up.trans ?_ (Up.drew _) | refine Up.trans ?_ (Up.drewN _ _) | refine Up.trans ?_ (Up.alloc _ _) | refine Up.trans ?_ (Hid.out (by assumption)))))).facts
           obtain ⟨r0, r1, r2, r3, f0', f1', f2', f3'⟩ := (HRS.out.up (w' := w8) (by (repeat (first | exact Below.refl _ _ | exact Hid.out (by assumption) | refine Up.trans ?_ (Up.drew _) | refine Up.trans ?_ (Up.drewN _ _) | refine Up.trans ?_ (Up.alloc _ _) | refine Up.trans ?_ (Hid.out (by assumption)))))).facts
           have HRS8 := Lib.hid (HRS.out.up (w' := w8) (by (repeat (first | exact Below.refl _ _ | exact Hid.out (by assumption) | refine Up.trans ?_ (Up.drew _) | refine Up.trans ?_ (Up.drewN _ _) | refine Up.trans ?_ (Up.alloc _ _) | refine Up.trans ?_ (Hid.out (by assumption))))))
           obtain ⟨sw8, Aw8, nw8, cw8, rfl, -, -, -, -, -⟩ := hv.open_
           have HVw8 := Lib.hid hv
           clear hv hu)))
    have hq := HRS8.out.stored (.int .i64 sw5) (.slice Aw5 nw5 cw5) (.int .i64 sw8) (.slice Aw8 nw8 cw8)
    have HVA := Lib.hid ((show IV w8 _ _ by (refine IV.up (Hid.out (by assumption)) ?_; (repeat (first | exact Below.refl _ _ | exact Hid.out (by assumption) | refine Up.trans ?_ (Up.drew _) | refine Up.trans ?_ (Up.drewN _ _) | refine Up.trans ?_ (Up.alloc _ _) | refine Up.trans ?_ (Hid.out (by assumption))))) : IV w8 (.agg #[.int .i64 sw5, .slice Aw5 nw5 cw5]) (a + b).num).put4 HRS8.out (.int .i64 sw5) (.slice Aw5 nw5 cw5) (.int .i64 sw8) (.slice Aw8 nw8 cw8))
    have HVB := Lib.hid (HVw8.out.put4 HRS8.out (.int .i64 sw5) (.slice Aw5 nw5 cw5) (.int .i64 sw8) (.slice Aw8 nw8 cw8))
    have HUF := Lib.hid ((show Up w w8 by (repeat (first | exact Below.refl _ _ | exact Hid.out (by assumption) | refine Up.trans ?_ (Up.drew _) | refine Up.trans ?_ (Up.drewN _ _) | refine Up.trans ?_ (Up.alloc _ _) | refine Up.trans ?_ (Hid.out (by assumption))))).put4 (show w.heap.size ≤ w.heap.size + 1 + 1 by omega) (.int .i64 sw5) (.slice Aw5 nw5 cw5) (.int .i64 sw8) (.slice Aw8 nw8 cw8))
    unfold put4 at hq HVA HVB HUF
    obtain ⟨hq0, hq1, hq2, hq3⟩ := hq
    go_wp2
    refine bodyPost_ret (by simp [results, Tryz.results121, go_sem, hq0, hq1, hq2, hq3]; try rfl) rfl ?_
    exact ⟨_, rfl, ⟨_, _, _, _, _, _, _, _, rfl, HVA.out, HVB.out⟩, HUF.out⟩
set_option maxHeartbeats 2000000 in
set_option maxRecDepth 10000 in
theorem fracOf_any (x y : Int) (q : Rat) (w : World) (hx : q.num = x) (hy : (q.den : Int) = y) (x1 : -9223372036854775808 ≤ x) (x2 : x ≤ 9223372036854775807) (y1 : -9223372036854775808 ≤ y) (y2 : y ≤ 9223372036854775807) :
    Calls Tryz.prog 119 #[.agg #[.int .i64 x, .int .i64 y]] w fun e w' => ∃ v, e = .returned v ∧ FV w' v q ∧ Up w w' := by
  have HO1 := Lib.hid (fun W => of_any x W x1 x2)
  have HO2 := Lib.hid (fun W => of_any y W y1 y2)
  rw [← hx] at HO1
  rw [← hy] at HO2
  have HX := Lib.hid hx
  have HY := Lib.hid hy
  rw [hx] at HO1
  rw [hy] at HO2
  clear hx hy x1 x2 y1 y2
  go_enter Tryz.func119, Tryz.ntmps119
  go_wp2_with fail
  obtain ⟨wB, hwB⟩ : ∃ wB, wB = (w.alloc (.cells #[.int .i64 x, .int .i64 y] 55)).alloc (.cells #[.int .i64 0, .slice none 0 0, .int .i64 0, .slice none 0 0] 110) := ⟨_, rfl⟩
  have HN := Lib.hid (show CellN wB w.heap.size x y by rw [hwB]; exact (CellN.new w x y).up (Up.alloc _ _))
  have HRS := Lib.hid (show Res4 wB (w.heap.size + 1) by rw [hwB]; have := Res4.new (w.alloc (.cells #[.int .i64 x, .int .i64 y] 55)); simpa using this)
  have HU := Lib.hid (show Up w wB by rw [hwB]; exact (Up.alloc _ _).trans (Up.alloc _ _))
  rw [← hwB]
  clear hwB
  obtain ⟨a0, a1, -, -, la⟩ := HN.out.facts
  have hne1 : (w.heap.size = w.heap.size + 1) = False := by simp
  have hne2 : (w.heap.size + 1 = w.heap.size) = False := by simp
  go_region_held3 (fun w' => w'.cell? ⟨w.heap.size, 0, none⟩ = some (.int .i64 x) ∧ w'.cell? ⟨w.heap.size, 1, none⟩ = some (.int .i64 y)) (go_keep)
    ((first
      | (go_at_call_of 116 (Value.int IntKind.i64 x)
         refine Calls.mono (HO1.out _) ?_
         rintro e w5 ⟨v5, rfl, hv5, hu5⟩
         have HU5 := Lib.hid hu5
         obtain ⟨a0, a1, -, -, la⟩ := (HN.out.up (w' := w5) (by (repeat (first | exact Below.refl _ _ | exact Hid.out (by assumption) | refine Up.trans ?_ (Up.drew _) | refine Up.trans ?_ (Up.drewN _ _) | refine Up.trans ?_ (Up.alloc _ _) | refine Up.trans ?_ (Hid.out (by assumption)))))).facts
         obtain ⟨s5, A5, n5, c5, rfl, -, -, -, -, -⟩ := hv5.open_
         have HV5 := Lib.hid hv5
         clear hv5 hu5)
      | (go_at_call_of 116 (Value.int IntKind.i64 y)
         refine Calls.mono (HO2.out _) ?_
         rintro e w7 ⟨v7, rfl, hv7, hu7⟩
         have HU7 := Lib.hid hu7
         obtain ⟨a0, a1, -, -, la⟩ := (HN.out.up (w' := w7) (by (repeat (first | exact Below.refl _ _ | exact Hid.out (by assumption) | refine Up.trans ?_ (Up.drew _) | refine Up.trans ?_ (Up.drewN _ _) | refine Up.trans ?_ (Up.alloc _ _) | refine Up.trans ?_ (Hid.out (by assumption)))))).facts
         obtain ⟨r0, r1, r2, r3, f0, f1, f2, f3⟩ := (HRS.out.up (w' := w7) (by (repeat (first | exact Below.refl _ _ | exact Hid.out (by assumption) | refine Up.trans ?_ (Up.drew _) | refine Up.trans ?_ (Up.drewN _ _) | refine Up.trans ?_ (Up.alloc _ _) | refine Up.trans ?_ (Hid.out (by assumption)))))).facts
         have HRS7 := Lib.hid (HRS.out.up (w' := w7) (by (repeat (first | exact Below.refl _ _ | exact Hid.out (by assumption) | refine Up.trans ?_ (Up.drew _) | refine Up.trans ?_ (Up.drewN _ _) | refine Up.trans ?_ (Up.alloc _ _) | refine Up.trans ?_ (Hid.out (by assumption))))))
         obtain ⟨s7, A7, n7, c7, rfl, -, -, -, -, -⟩ := hv7.open_
         have HV7 := Lib.hid hv7
         clear hv7 hu7)))
  have hq := HRS7.out.stored (.int .i64 s5) (.slice A5 n5 c5) (.int .i64 s7) (.slice A7 n7 c7)
  have HVA := Lib.hid ((show IV w7 (.agg #[.int .i64 s5, .slice A5 n5 c5]) x by (refine IV.up (Hid.out (by assumption)) ?_; (repeat (first | exact Below.refl _ _ | exact Hid.out (by assumption) | refine Up.trans ?_ (Up.drew _) | refine Up.trans ?_ (Up.drewN _ _) | refine Up.trans ?_ (Up.alloc _ _) | refine Up.trans ?_ (Hid.out (by assumption)))))).put4 HRS7.out (.int .i64 s5) (.slice A5 n5 c5) (.int .i64 s7) (.slice A7 n7 c7))
  have HVB := Lib.hid (HV7.out.put4 HRS7.out (.int .i64 s5) (.slice A5 n5 c5) (.int .i64 s7) (.slice A7 n7 c7))
  have HUF := Lib.hid ((show Up w w7 by (repeat (first | exact Below.refl _ _ | exact Hid.out (by assumption) | refine Up.trans ?_ (Up.drew _) | refine Up.trans ?_ (Up.drewN _ _) | refine Up.trans ?_ (Up.alloc _ _) | refine Up.trans ?_ (Hid.out (by assumption))))).put4 (show w.heap.size ≤ w.heap.size + 1 by omega) (.int .i64 s5) (.slice A5 n5 c5) (.int .i64 s7) (.slice A7 n7 c7))
  unfold put4 at hq HVA HVB HUF
  obtain ⟨hq0, hq1, hq2, hq3⟩ := hq
  go_wp2
  refine bodyPost_ret (by simp [results, Tryz.results119, go_sem, hq0, hq1, hq2, hq3]; try rfl) rfl ?_
  exact ⟨_, rfl, ⟨_, _, _, _, _, _, _, _, rfl, HX.out.symm ▸ HVA.out, HY.out.symm ▸ HVB.out⟩, HUF.out⟩
set_option maxHeartbeats 2000000 in
set_option maxRecDepth 10000 in
theorem limited_any (v : Value) (q : Rat) (w : World) (h : FV w v q) :
    Calls Tryz.prog 83 #[v] w fun e w' => e = .returned (.tuple #[.agg #[.int .i64 (if fits q then q.num else 0), .int .i64 (if fits q then (q.den : Int) else 0)], .int .i64 (if fits q then 0 else 3)]) ∧ Up w w' := by
  have HN := Lib.hid (fun W (hu : Up w W) => fracNum_any v q W (h.up hu))
  obtain ⟨s, A, n, c, t, F, m, k, rfl, hp1, hp2⟩ := h
  clear hp1 hp2
  generalize fits q = b at *
  generalize q.num = x at *
  generalize (q.den : Int) = y at *
  cases b
  all_goals
    simp only [if_true, if_false, Bool.false_eq_true] at HN ⊢
    go_enter Tryz.func83, Tryz.ntmps83
    go_wp2_with fail
    obtain ⟨wB, hwB⟩ : ∃ wB, wB = (w.alloc (.cells #[.int .i64 s, .slice A n c, .int .i64 t, .slice F m k] 110)).alloc (.cells #[.int .i64 0, .int .i64 0] 55) := ⟨_, rfl⟩
    have HR := Lib.hid (show CellN wB (w.heap.size + 1) 0 0 by rw [hwB]; have := CellN.new (w.alloc (.cells #[.int .i64 s, .slice A n c, .int .i64 t, .slice F m k] 110)) 0 0; simpa using this)
    have HU := Lib.hid (show Up w wB by rw [hwB]; exact (Up.alloc _ _).trans (Up.alloc _ _))
    rw [← hwB]
    clear hwB
    refine Calls.mono (HN.out _ (by (repeat (first | exact Below.refl _ _ | exact Hid.out (by assumption) | refine Up.trans ?_ (Up.drew _) | refine Up.trans ?_ (Up.drewN _ _) | refine Up.trans ?_ (Up.alloc _ _) | refine Up.trans ?_ (Hid.out (by assumption)))))) ?_
    rintro e w1 ⟨rfl, hu1⟩
    have HU1 := Lib.hid hu1
    clear hu1
    have HR1 := Lib.hid (HR.out.up (w' := w1) (by (repeat (first | exact Below.refl _ _ | exact Hid.out (by assumption) | refine Up.trans ?_ (Up.drew _) | refine Up.trans ?_ (Up.drewN _ _) | refine Up.trans ?_ (Up.alloc _ _) | refine Up.trans ?_ (Hid.out (by assumption))))))
  · have HR2 := Lib.hid (HR1.out.up (Up.alloc w1 (.cells #[.int .i64 0, .int .i64 0] 55)))
    obtain ⟨r0, r1, g0, g1, lr⟩ := HR2.out.facts
    have HF := Lib.hid ((HR2.out.set 0 0).facts)
    have HUF := Lib.hid ((show Up w (w1.alloc (.cells #[.int .i64 0, .int .i64 0] 55)) by (repeat (first | exact Below.refl _ _ | exact Hid.out (by assumption) | refine Up.trans ?_ (Up.drew _) | refine Up.trans ?_ (Up.drewN _ _) | refine Up.trans ?_ (Up.alloc _ _) | refine Up.trans ?_ (Hid.out (by assumption))))).stored (show w.heap.size ≤ w.heap.size + 1 by omega) (.int .i64 0) (.int .i64 0))
    go_wp2
    obtain ⟨z0, z1, -, -, -⟩ := HF.out
    refine bodyPost_ret (by simp [results, Tryz.results83, go_sem, z0, z1]; try rfl) rfl ?_
    exact ⟨rfl, HUF.out⟩
  · have HR2 := Lib.hid (HR1.out.up (Up.alloc w1 (.cells #[.int .i64 x, .int .i64 y] 55)))
    obtain ⟨r0, r1, g0, g1, lr⟩ := HR2.out.facts
    have HF := Lib.hid ((HR2.out.set x y).facts)
    have HUF := Lib.hid ((show Up w (w1.alloc (.cells #[.int .i64 x, .int .i64 y] 55)) by (repeat (first | exact Below.refl _ _ | exact Hid.out (by assumption) | refine Up.trans ?_ (Up.drew _) | refine Up.trans ?_ (Up.drewN _ _) | refine Up.trans ?_ (Up.alloc _ _) | refine Up.trans ?_ (Hid.out (by assumption))))).stored (show w.heap.size ≤ w.heap.size + 1 by omega) (.int .i64 x) (.int .i64 y))
    go_wp2
    obtain ⟨z0, z1, -, -, -⟩ := HF.out
    refine bodyPost_ret (by simp [results, Tryz.results83, go_sem, z0, z1]; try rfl) rfl ?_
    exact ⟨rfl, HUF.out⟩
theorem bl_small {z : Int} (h : z.natAbs < 18446744073709551616) : bl z ≤ 2 := digs_length_le (B := 4294967296) (k := 2) (by omega) (by omega)
set_option maxHeartbeats 2000000 in
set_option maxRecDepth 10000 in
theorem valid_any (x y : Int) (w : World) (x1 : -9223372036854775808 ≤ x) (x2 : x ≤ 9223372036854775807) (y1 : -9223372036854775808 ≤ y) (y2 : y ≤ 9223372036854775807) (ht : Tab w) :
    Calls Tryz.prog 81 #[.agg #[.int .i64 x, .int .i64 y]] w fun e w' => e = .returned (.bool (okNum x y)) ∧ Up w w' := by
  by_cases h1 : 1 ≤ y
  · by_cases h2 : y ≤ 1152921504606846976
    · by_cases h3 : -1152921504606846976 ≤ x
      · by_cases h4 : x ≤ 1152921504606846976
        · have hv : okNum x y = decide ((Int.gcd x y : Nat) = (1 : Int)) := by
            unfold okNum; simp only [h1, h2, h3, h4, true_and]; congr 1; simp; omega
          rw [hv]
          have HO1 := Lib.hid (fun W => of_any x W x1 x2)
          have HO2 := Lib.hid (fun W => of_any y W y1 y2)
          have HO3 := Lib.hid (fun W => of_any 1 W (by omega) (by omega))
          have HG := Lib.hid (fun W u1 u2 (hu : Up w W) (hv1 : IV W u1 x) (hv2 : IV W u2 y) => intGcd_any u1 u2 x y W hv1 hv2 (Nat.le_trans (bl_small (by omega)) (by omega)) (Nat.le_trans (bl_small (by omega)) (by omega)) (ht.up hu))
          have HE := Lib.hid (fun W u1 u2 (hv1 : IV W u1 (Int.gcd x y : Nat)) (hv2 : IV W u2 1) => intEqual_any u1 u2 _ _ W hv1 hv2)
          clear hv ht
          go_enter Tryz.func81, Tryz.ntmps81
          go_wp2_with fail
          obtain ⟨wB, hwB⟩ : ∃ wB, wB = w.alloc (.cells #[.int .i64 x, .int .i64 y] 55) := ⟨_, rfl⟩
          have HN := Lib.hid (show CellN wB w.heap.size x y by rw [hwB]; exact CellN.new w x y)
          have HU := Lib.hid (show Up w wB by rw [hwB]; exact Up.alloc _ _)
          rw [← hwB]
          clear hwB
          obtain ⟨a0, a1, -, -, la⟩ := HN.out.facts
          go_region_held3 (fun w' => w'.cell? ⟨w.heap.size, 0, none⟩ = some (.int .i64 x) ∧ w'.cell? ⟨w.heap.size, 1, none⟩ = some (.int .i64 y)) (go_keep)
            ((first
              | (go_at_call_of 116 (Value.int IntKind.i64 x)
                 refine Calls.mono (HO1.out _) ?_
                 rintro e w5 ⟨v5, rfl, hv5, hu5⟩
                 have HU5 := Lib.hid hu5
                 obtain ⟨a0, a1, -, -, la⟩ := (HN.out.up (w' := w5) (by (repeat (first | exact Below.refl _ _ | exact Hid.out (by assumption) | refine Up.trans ?_ (Up.drew _) | refine Up.trans ?_ (Up.drewN _ _) | refine Up.trans ?_ (Up.alloc _ _) | refine Up.trans ?_ (Hid.out (by assumption)))))).facts
                 have HV5 := Lib.hid hv5
                 clear hv5 hu5)
              | (go_at_call_of 116 (Value.int IntKind.i64 y)
                 refine Calls.mono (HO2.out _) ?_
                 rintro e w6 ⟨v6, rfl, hv6, hu6⟩
                 have HU6 := Lib.hid hu6
                 obtain ⟨a0, a1, -, -, la⟩ := (HN.out.up (w' := w6) (by (repeat (first | exact Below.refl _ _ | exact Hid.out (by assumption) | refine Up.trans ?_ (Up.drew _) | refine Up.trans ?_ (Up.drewN _ _) | refine Up.trans ?_ (Up.alloc _ _) | refine Up.trans ?_ (Hid.out (by assumption)))))).facts
                 have HV6 := Lib.hid hv6
                 clear hv6 hu6)
              | (go_at_call 100
                 refine Calls.mono (HG.out _ _ _ (by (repeat (first | exact Below.refl _ _ | exact Hid.out (by assumption) | refine Up.trans ?_ (Up.drew _) | refine Up.trans ?_ (Up.drewN _ _) | refine Up.trans ?_ (Up.alloc _ _) | refine Up.trans ?_ (Hid.out (by assumption))))) (by (refine IV.up (Hid.out (by assumption)) ?_; (repeat (first | exact Below.refl _ _ | exact Hid.out (by assumption) | refine Up.trans ?_ (Up.drew _) | refine Up.trans ?_ (Up.drewN _ _) | refine Up.trans ?_ (Up.alloc _ _) | refine Up.trans ?_ (Hid.out (by assumption)))))) (by (refine IV.up (Hid.out (by assumption)) ?_; (repeat (first | exact Below.refl _ _ | exact Hid.out (by assumption) | refine Up.trans ?_ (Up.drew _) | refine Up.trans ?_ (Up.drewN _ _) | refine Up.trans ?_ (Up.alloc _ _) | refine Up.trans ?_ (Hid.out (by assumption))))))) ?_
                 rintro e w7 ⟨v7, rfl, hv7, hu7⟩
                 have HU7 := Lib.hid hu7
                 obtain ⟨a0, a1, -, -, la⟩ := (HN.out.up (w' := w7) (by (repeat (first | exact Below.refl _ _ | exact Hid.out (by assumption) | refine Up.trans ?_ (Up.drew _) | refine Up.trans ?_ (Up.drewN _ _) | refine Up.trans ?_ (Up.alloc _ _) | refine Up.trans ?_ (Hid.out (by assumption)))))).facts
                 have HV7 := Lib.hid hv7
                 clear hv7 hu7)
              | (go_at_call_of 116 (Value.int IntKind.i64 1)
                 refine Calls.mono (HO3.out _) ?_
                 rintro e w8 ⟨v8, rfl, hv8, hu8⟩
                 have HU8 := Lib.hid hu8
                 obtain ⟨a0, a1, -, -, la⟩ := (HN.out.up (w' := w8) (by (repeat (first | exact Below.refl _ _ | exact Hid.out (by assumption) | refine Up.trans ?_ (Up.drew _) | refine Up.trans ?_ (Up.drewN _ _) | refine Up.trans ?_ (Up.alloc _ _) | refine Up.trans ?_ (Hid.out (by assumption)))))).facts
                 have HV8 := Lib.hid hv8
                 clear hv8 hu8)
              | (go_at_call 118
                 refine Calls.mono (HE.out _ _ _ (by (refine IV.up (Hid.out (by assumption)) ?_; (repeat (first | exact Below.refl _ _ | exact Hid.out (by assumption) | refine Up.trans ?_ (Up.drew _) | refine Up.trans ?_ (Up.drewN _ _) | refine Up.trans ?_ (Up.alloc _ _) | refine Up.trans ?_ (Hid.out (by assumption)))))) (by (refine IV.up (Hid.out (by assumption)) ?_; (repeat (first | exact Below.refl _ _ | exact Hid.out (by assumption) | refine Up.trans ?_ (Up.drew _) | refine Up.trans ?_ (Up.drewN _ _) | refine Up.trans ?_ (Up.alloc _ _) | refine Up.trans ?_ (Hid.out (by assumption))))))) ?_
                 rintro e w9 ⟨rfl, hu9⟩
                 have HU9 := Lib.hid hu9
                 obtain ⟨a0, a1, -, -, la⟩ := (HN.out.up (w' := w9) (by (repeat (first | exact Below.refl _ _ | exact Hid.out (by assumption) | refine Up.trans ?_ (Up.drew _) | refine Up.trans ?_ (Up.drewN _ _) | refine Up.trans ?_ (Up.alloc _ _) | refine Up.trans ?_ (Hid.out (by assumption)))))).facts
                 clear hu9)))
          go_wp2
          refine bodyPost_ret (by simp [results, Tryz.results81, go_sem]; try rfl) rfl ?_
          exact ⟨rfl, by (repeat (first | exact Below.refl _ _ | exact Hid.out (by assumption) | refine Up.trans ?_ (Up.drew _) | refine Up.trans ?_ (Up.drewN _ _) | refine Up.trans ?_ (Up.alloc _ _) | refine Up.trans ?_ (Hid.out (by assumption))))⟩
        · have hv : okNum x y = false := by unfold okNum; simp only [decide_eq_false_iff_not]; intro hh; exact h4 hh.2.2.2.1
          rw [hv]
          have hb := decide_eq_false h4; have hb' := Bool.eq_false_iff.1 hb; clear hb'; clear hv ht
          go_enter Tryz.func81, Tryz.ntmps81
          go_wp2_with fail
          obtain ⟨wB, hwB⟩ : ∃ wB, wB = w.alloc (.cells #[.int .i64 x, .int .i64 y] 55) := ⟨_, rfl⟩
          have HN := Lib.hid (show CellN wB w.heap.size x y by rw [hwB]; exact CellN.new w x y)
          have HU := Lib.hid (show Up w wB by rw [hwB]; exact Up.alloc _ _)
          rw [← hwB]
          clear hwB
          obtain ⟨a0, a1, -, -, la⟩ := HN.out.facts
          go_quiet (fail)
          go_wp2
          refine bodyPost_ret (by simp [results, Tryz.results81, go_sem]; try rfl) rfl ?_
          exact ⟨rfl, by (repeat (first | exact Below.refl _ _ | exact Hid.out (by assumption) | refine Up.trans ?_ (Up.drew _) | refine Up.trans ?_ (Up.drewN _ _) | refine Up.trans ?_ (Up.alloc _ _) | refine Up.trans ?_ (Hid.out (by assumption))))⟩
      · have hv : okNum x y = false := by unfold okNum; simp only [decide_eq_false_iff_not]; intro hh; exact h3 hh.2.2.1
        rw [hv]
        have hb := decide_eq_false h3; have hb' := Bool.eq_false_iff.1 hb; clear hb'; clear hv ht
        go_enter Tryz.func81, Tryz.ntmps81
        go_wp2_with fail
        obtain ⟨wB, hwB⟩ : ∃ wB, wB = w.alloc (.cells #[.int .i64 x, .int .i64 y] 55) := ⟨_, rfl⟩
        have HN := Lib.hid (show CellN wB w.heap.size x y by rw [hwB]; exact CellN.new w x y)
        have HU := Lib.hid (show Up w wB by rw [hwB]; exact Up.alloc _ _)
        rw [← hwB]
        clear hwB
        obtain ⟨a0, a1, -, -, la⟩ := HN.out.facts
        go_quiet (fail)
        go_wp2
        refine bodyPost_ret (by simp [results, Tryz.results81, go_sem]; try rfl) rfl ?_
        exact ⟨rfl, by (repeat (first | exact Below.refl _ _ | exact Hid.out (by assumption) | refine Up.trans ?_ (Up.drew _) | refine Up.trans ?_ (Up.drewN _ _) | refine Up.trans ?_ (Up.alloc _ _) | refine Up.trans ?_ (Hid.out (by assumption))))⟩
    · have hv : okNum x y = false := by unfold okNum; simp only [decide_eq_false_iff_not]; intro hh; exact h2 hh.2.1
      rw [hv]
      have hb := decide_eq_false h2; have hb' := Bool.eq_false_iff.1 hb; clear hb'; clear hv ht
      go_enter Tryz.func81, Tryz.ntmps81
      go_wp2_with fail
      obtain ⟨wB, hwB⟩ : ∃ wB, wB = w.alloc (.cells #[.int .i64 x, .int .i64 y] 55) := ⟨_, rfl⟩
      have HN := Lib.hid (show CellN wB w.heap.size x y by rw [hwB]; exact CellN.new w x y)
      have HU := Lib.hid (show Up w wB by rw [hwB]; exact Up.alloc _ _)
      rw [← hwB]
      clear hwB
      obtain ⟨a0, a1, -, -, la⟩ := HN.out.facts
      go_quiet (fail)
      go_wp2
      refine bodyPost_ret (by simp [results, Tryz.results81, go_sem]; try rfl) rfl ?_
      exact ⟨rfl, by (repeat (first | exact Below.refl _ _ | exact Hid.out (by assumption) | refine Up.trans ?_ (Up.drew _) | refine Up.trans ?_ (Up.drewN _ _) | refine Up.trans ?_ (Up.alloc _ _) | refine Up.trans ?_ (Hid.out (by assumption))))⟩
  · have hv : okNum x y = false := by unfold okNum; simp only [decide_eq_false_iff_not]; intro hh; exact h1 hh.1
    rw [hv]
    have hb := decide_eq_false h1; have hb' := Bool.eq_false_iff.1 hb; clear hb'; clear hv ht
    go_enter Tryz.func81, Tryz.ntmps81
    go_wp2_with fail
    obtain ⟨wB, hwB⟩ : ∃ wB, wB = w.alloc (.cells #[.int .i64 x, .int .i64 y] 55) := ⟨_, rfl⟩
    have HN := Lib.hid (show CellN wB w.heap.size x y by rw [hwB]; exact CellN.new w x y)
    have HU := Lib.hid (show Up w wB by rw [hwB]; exact Up.alloc _ _)
    rw [← hwB]
    clear hwB
    obtain ⟨a0, a1, -, -, la⟩ := HN.out.facts
    go_quiet (fail)
    go_wp2
    refine bodyPost_ret (by simp [results, Tryz.results81, go_sem]; try rfl) rfl ?_
    exact ⟨rfl, by (repeat (first | exact Below.refl _ _ | exact Hid.out (by assumption) | refine Up.trans ?_ (Up.drew _) | refine Up.trans ?_ (Up.drewN _ _) | refine Up.trans ?_ (Up.alloc _ _) | refine Up.trans ?_ (Hid.out (by assumption))))⟩
theorem ratOf_ok {x y : Int} (h : okNum x y = true) : (ratOf x y).num = x ∧ ((ratOf x y).den : Int) = y := by
  unfold okNum at h
  simp only [decide_eq_true_eq] at h
  obtain ⟨h1, -, -, -, hg⟩ := h
  have := new_pos (top := x) (low := y) (by omega)
  rw [hg] at this
  unfold ratOf
  exact ⟨by rw [← this.1]; simp, by rw [← this.2]; simp⟩
theorem ok_bounds {x y : Int} (h : okNum x y = true) : 1 ≤ y ∧ y ≤ 1152921504606846976 ∧ -1152921504606846976 ≤ x ∧ x ≤ 1152921504606846976 := by
  unfold okNum at h
  simp only [decide_eq_true_eq] at h
  exact ⟨h.1, h.2.1, h.2.2.1, h.2.2.2.1⟩
theorem ok_FB {x y : Int} (h : okNum x y = true) : FB (ratOf x y) 16777216 := by
  obtain ⟨h1, h2⟩ := ratOf_ok h
  have := ok_bounds h
  exact ⟨by rw [h1]; exact Nat.le_trans (bl_small (by omega)) (by omega), by rw [h2]; exact Nat.le_trans (bl_small (by omega)) (by omega)⟩
def Rng (x y : Int) : Prop := -9223372036854775808 ≤ x ∧ x ≤ 9223372036854775807 ∧ -9223372036854775808 ≤ y ∧ y ≤ 9223372036854775807
theorem Ans.same {X Y E X' Y' E' : Int} {ok ok' : Bool} {q q' : Rat} (h : Ans X Y E ok q) (h' : Ans X' Y' E' ok' q') (ho : ok = ok') (hq : q = q') : X = X' ∧ Y = Y' ∧ E = E' := by
  obtain ⟨rfl, rfl, rfl⟩ := h
  obtain ⟨rfl, rfl, rfl⟩ := h'
  subst ho hq
  exact ⟨rfl, rfl, rfl⟩
end Go.Proofs.YtacbjbnocepnaaaGreatDoor

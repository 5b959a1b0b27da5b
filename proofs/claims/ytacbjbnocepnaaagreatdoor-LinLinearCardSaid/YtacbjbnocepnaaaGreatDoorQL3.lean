/- What a further law needs. -/
import Derived.Test.YtacbjbnocepnaaaGreatDoorQL2
import Derived.Test.YtacbjbnocepnaaaGreatDoorQGS
import Derived.Test.YtacbjbnocepnaaaGreatDoorQHG
import Derived.Test.YtacbjbnocepnaaaGreatDoorQHI
import Derived.Test.YtacbjbnocepnaaaGreatDoorQHJ
import Derived.Test.YtacbjbnocepnaaaGreatDoorQHK
import Derived.Deep.RegionHeld3
import Derived.IntWalk
import Derived.ArgAppend
import Derived.Deep.RegionLawGrows
namespace Go.Proofs.YtacbjbnocepnaaaGreatDoor
open Go.RowKit Fm
set_option maxHeartbeats 1000000 in
set_option maxRecDepth 10000 in
theorem numAllValid_any (A : Option Addr) (c : Nat) (xs : List (Int × Int)) (w : World) (hc : xs.length ≤ c) (hcm : c ≤ maxLen) (hr : RdN w A xs) (hx : ∀ p, p ∈ xs → Rng p.1 p.2) (ht : Tab w) :
    Calls Tryz.prog 82 #[.slice A xs.length c] w fun e w' => e = .returned (.bool (okAll xs)) ∧ Up w w' := by
  have hlen := len_le hc hcm
  clear hcm hc
  go_enter Tryz.func82, Tryz.ntmps82
  go_wp2
  go_loopw [7] (fun i wr => ∃ k : Nat, k ≤ xs.length ∧ i = .int .i64 k ∧ Hid (okAll (xs.take k) = true) ∧ Up w wr) (fun i _ => xs.length - (intOf i).toNat)
  case atStart => exact ⟨0, by omega, rfl, rfl, Up.refl _⟩
  case round =>
    obtain ⟨k, hk, rfl, HK, hup⟩ := hrel
    have HU := Lib.hid hup
    have hrA := hr.up hup
    clear hup
    by_cases hkl : k < xs.length
    · obtain ⟨b, off, rfl, hbb, hcell⟩ := hrA.at_ hkl
      have hR := hx xs[k] (List.getElem_mem hkl)
      obtain ⟨x, hxx⟩ : ∃ x, x = xs[k].1 := ⟨_, rfl⟩
      obtain ⟨y, hyy⟩ : ∃ y, y = xs[k].2 := ⟨_, rfl⟩
      rw [← hxx, ← hyy] at hcell hR
      obtain ⟨c0, c1⟩ := hcell
      have HV := Lib.hid (fun W (hu : Up w W) => valid_any x y W hR.1 hR.2.1 hR.2.2.1 hR.2.2.2 (ht.up hu))
      have HNEXT : Hid (okAll (xs.take (k + 1)) = okNum x y) := by
        unfold Hid
        rw [hxx, hyy]
        have := HK.out
        unfold okAll at this ⊢
        rw [List.take_succ_eq_append_getElem hkl, List.all_append, this]
        simp
      have HFALSE : Hid (okNum x y = false → okAll xs = false) := Lib.hid (fun h => by
        rw [hxx, hyy] at h
        unfold okAll
        rw [List.all_eq_false]
        exact ⟨xs[k], List.getElem_mem hkl, by simp [h]⟩)
      clear hxx hyy hR hrA HK
      go_wp2_with fail
      have HUA := Lib.hid (Up.alloc wr (.cells #[.int .i64 x, .int .i64 y] 55))
      refine Calls.mono (HV.out _ (by (repeat (first | exact Below.refl _ _ | exact Hid.out (by assumption) | refine Up.trans ?_ (Up.drew _) | refine Up.trans ?_ (Up.drewN _ _) | refine Up.trans ?_ (Up.alloc _ _) | refine Up.trans ?_ (Hid.out (by assumption)))))) ?_
      rintro e w1 ⟨rfl, hu1⟩
      have HU1 := Lib.hid hu1
      clear hu1 c0 c1 hbb hr
      rcases hv : okNum x y with _ | _
      · have HA := Lib.hid (HFALSE.out hv)
        clear HNEXT HFALSE hv
        go_wp2
        go_ret
        exact ⟨by rw [HA.out]; rfl, by (repeat (first | exact Below.refl _ _ | exact Hid.out (by assumption) | refine Up.trans ?_ (Up.drew _) | refine Up.trans ?_ (Up.drewN _ _) | refine Up.trans ?_ (Up.alloc _ _) | refine Up.trans ?_ (Hid.out (by assumption))))⟩
      · rw [hv] at HNEXT
        clear HFALSE hv
        go_wp2_with fail
        go_roundw
        case rel => exact ⟨k + 1, hkl, by simp, HNEXT, by (repeat (first | exact Below.refl _ _ | exact Hid.out (by assumption) | refine Up.trans ?_ (Up.drew _) | refine Up.trans ?_ (Up.drewN _ _) | refine Up.trans ?_ (Up.alloc _ _) | refine Up.trans ?_ (Hid.out (by assumption))))⟩
        case measure => simp [intOf]; omega
    · have HE : Hid (okAll xs = true) := by
        have := HK.out
        rw [List.take_of_length_le (by omega)] at this
        exact this
      clear HK
      go_wp2
      go_ret
      exact ⟨by rw [HE.out]; rfl, HU.out⟩
end Go.Proofs.YtacbjbnocepnaaaGreatDoor
namespace Go.Proofs.YtacbjbnocepnaaaGreatDoor
open Go.RowKit Fm
theorem FB.mul {a b : Rat} {n m k : Nat} (ha : FB a n) (hb : FB b m) (hk : n + m ≤ k) : FB (a * b) k := by
  rw [rat_mul]
  exact FB.divInt (bl_mul ha.top hb.top hk) (bl_mul ha.low hb.low hk) (Int.mul_ne_zero (den_ne a) (den_ne b))
theorem ok_FB2 {x y : Int} (h : okNum x y = true) : FB (ratOf x y) 2 := by
  obtain ⟨h1, h2⟩ := ratOf_ok h
  have := ok_bounds h
  exact ⟨by rw [h1]; exact bl_small (by omega), by rw [h2]; exact bl_small (by omega)⟩
def dotQ : List (Int × Int) → List (Int × Int) → Rat
  | p :: ps, q :: qs => ratOf p.1 p.2 * ratOf q.1 q.2 + dotQ ps qs
  | _, _ => 0
theorem dotQ_append (l m l' m' : List (Int × Int)) (h : l.length = m.length) : dotQ (l ++ l') (m ++ m') = dotQ l m + dotQ l' m' := by
  induction l generalizing m with
  | nil =>
    cases m with
    | nil => simp [dotQ, Rat.zero_add]
    | cons q qs => simp at h
  | cons p ps ih =>
    cases m with
    | nil => simp at h
    | cons q qs =>
      simp only [List.length_cons, Nat.add_right_cancel_iff] at h
      simp only [List.cons_append, dotQ, ih qs h, Rat.add_assoc]
theorem dotQ_split (l m : List (Int × Int)) (k : Nat) (h : l.length = m.length) : dotQ (l.take k) (m.take k) + dotQ (l.drop k) (m.drop k) = dotQ l m := by
  rw [← dotQ_append _ _ _ _ (by rw [List.length_take, List.length_take, h]), List.take_append_drop, List.take_append_drop]
theorem okAll_take {l : List (Int × Int)} (k : Nat) (h : okAll l = true) : okAll (l.take k) = true := by
  unfold okAll at *
  rw [List.all_eq_true] at *
  exact fun p hp => h p (List.mem_of_mem_take hp)
theorem okAll_drop {l : List (Int × Int)} (k : Nat) (h : okAll l = true) : okAll (l.drop k) = true := by
  unfold okAll at *
  rw [List.all_eq_true] at *
  exact fun p hp => h p (List.mem_of_mem_drop hp)
theorem okAll_get {l : List (Int × Int)} (h : okAll l = true) {k : Nat} (hk : k < l.length) : okNum l[k].1 l[k].2 = true := by
  unfold okAll at h
  rw [List.all_eq_true] at h
  exact h _ (List.getElem_mem hk)
theorem dotQ_FB (l m : List (Int × Int)) (h : l.length = m.length) (hl : okAll l = true) (hm : okAll m = true) : FB (dotQ l m) (8 * l.length + 1) := by
  induction l generalizing m with
  | nil =>
    cases m with
    | nil => exact FB.zero.mono (by omega)
    | cons q qs => simp at h
  | cons p ps ih =>
    cases m with
    | nil => simp at h
    | cons q qs =>
      have h1 := okAll_get hl (k := 0) (by simp)
      have h2 := okAll_get hm (k := 0) (by simp)
      simp only [List.length_cons, Nat.add_right_cancel_iff] at h
      have := ih qs h (okAll_drop 1 hl) (okAll_drop 1 hm)
      exact ((ok_FB2 h1).mul (ok_FB2 h2) (Nat.le_refl _)).add this (by simp only [List.length_cons]; omega)
theorem dotQ_QB (l m : List (Int × Int)) (h : l.length = m.length) (hl : okAll l = true) (hm : okAll m = true) : QB (dotQ l m) (8 * l.length + 1) := by
  induction l generalizing m with
  | nil =>
    cases m with
    | nil => exact QB.zero.mono (by omega)
    | cons q qs => simp at h
  | cons p ps ih =>
    cases m with
    | nil => simp at h
    | cons q qs =>
      have h1 := okAll_get hl (k := 0) (by simp)
      have h2 := okAll_get hm (k := 0) (by simp)
      simp only [List.length_cons, Nat.add_right_cancel_iff] at h
      have := ih qs h (okAll_drop 1 hl) (okAll_drop 1 hm)
      exact ((ok_QB h1).mul (ok_QB h2) (Nat.le_refl _)).add this (by simp only [List.length_cons]; omega)
end Go.Proofs.YtacbjbnocepnaaaGreatDoor
namespace Go.Proofs.YtacbjbnocepnaaaGreatDoor
open Go.RowKit Fm
theorem one_facts {w : World} {b off : Nat} {x y : Int} (h : RdN w (some ⟨b, off, none⟩) [(x, y)]) : w.cell? ⟨b, off, none⟩ = some (.int .i64 x) ∧ w.cell? ⟨b, off + 1, none⟩ = some (.int .i64 y) ∧ b < w.heap.size := by
  obtain ⟨b', off', hA, hb, hc⟩ := h (by simp)
  cases hA
  have := hc 0 (by simp)
  exact ⟨this.1, this.2, hb⟩
set_option maxHeartbeats 4000000 in
set_option maxRecDepth 10000 in
theorem products_two (b b2 off off2 n h c d : Nat) (qa qb q : Rat) (w : World) (hc : n ≤ c) (hd : n ≤ d) (hn : n ≤ 1000000) (h2 : 2 ≤ n) (hh : h = n / 2)
    (HR1 : Hid (∀ W, Up w W → Calls Tryz.prog 84 #[.slice (some ⟨b, off, none⟩) h c, .slice (some ⟨b2, off2, none⟩) h d] W fun e w' => ∃ v, e = .returned v ∧ FV w' v qa ∧ Up W w'))
    (HR2 : Hid (∀ W, Up w W → Calls Tryz.prog 84 #[.slice (some ⟨b, off + h * 2, none⟩) (n - h) (c - h), .slice (some ⟨b2, off2 + h * 2, none⟩) (n - h) (d - h)] W fun e w' => ∃ v, e = .returned v ∧ FV w' v qb ∧ Up W w'))
    (HP : Hid (∀ W u1 u2, Up w W → FV W u1 qa → FV W u2 qb → Calls Tryz.prog 121 #[u1, u2] W fun e w' => ∃ v, e = .returned v ∧ FV w' v q ∧ Up W w')) :
    Calls Tryz.prog 84 #[.slice (some ⟨b, off, none⟩) n c, .slice (some ⟨b2, off2, none⟩) n d] w fun e w' => ∃ v, e = .returned v ∧ FV w' v q ∧ Up w w' := by
  have hn0 : ((n : Int) == 0) = false := by simp; omega
  have hn1 : ((n : Int) == 1) = false := by simp; omega
  have hq : (n : Int).tdiv 2 = (h : Int) := by rw [Int.tdiv_eq_ediv_of_nonneg (by omega)]; omega
  have hln : h ≤ n := by omega
  have hlc : h ≤ c := by omega
  have hld : h ≤ d := by omega
  have i0 : (0 : Int) ≤ (h : Int) := by omega
  have i1 : (h : Int) ≤ (n : Int) := by omega
  have i2 : (h : Int) ≤ (c : Int) := by omega
  have i3 : (h : Int) ≤ (d : Int) := by omega
  have i4 : (n : Int) ≤ (c : Int) := by omega
  have i5 : (n : Int) ≤ (d : Int) := by omega
  have hq2 : (n : Int) / 2 = (h : Int) := by omega
  have i6 : (0 : Int) ≤ (n : Int) := by omega
  have iw2 : IntKind.i64.wrap (h : Int) = (h : Int) := IntWalk.i64_in _ (by omega)
  have iw3 : IntKind.i64.wrap ((n : Int) / 2) = (h : Int) := by rw [hq2]; exact iw2
  have iw4 : wrap64 (h : Int) = (h : Int) := by unfold wrap64; omega
  have iw : IntKind.i64.wrap ((n : Int).tdiv 2) = (h : Int) := by rw [hq]; exact IntWalk.i64_in _ (by omega)
  clear hh
  go_enter Tryz.func84, Tryz.ntmps84
  go_upto_region 3 with fail
  have HU := Lib.hid (Up.alloc w (.cells #[.int .i64 0, .slice none 0 0, .int .i64 0, .slice none 0 0] 110))
  have HRS := Lib.hid (Res4.new w)
  generalize w.alloc (.cells #[.int .i64 0, .slice none 0 0, .int .i64 0, .slice none 0 0] 110) = wB at *
  go_region_held3 (fun _ => True) (trivial)
    ((first
      | (go_at_call 121
         refine Calls.mono (HP.out _ _ _ (by (repeat (first | exact Below.refl _ _ | exact Hid.out (by assumption) | refine Up.trans ?_ (Up.drew _) | refine Up.trans ?_ (Up.drewN _ _) | refine Up.trans ?_ (Up.alloc _ _) | refine Up.trans ?_ (Hid.out (by assumption))))) (HVw1.out.up (by (repeat (first | exact Below.refl _ _ | exact Hid.out (by assumption) | refine Up.trans ?_ (Up.drew _) | refine Up.trans ?_ (Up.drewN _ _) | refine Up.trans ?_ (Up.alloc _ _) | refine Up.trans ?_ (Hid.out (by assumption)))))) (HVw2.out.up (by (repeat (first | exact Below.refl _ _ | exact Hid.out (by assumption) | refine Up.trans ?_ (Up.drew _) | refine Up.trans ?_ (Up.drewN _ _) | refine Up.trans ?_ (Up.alloc _ _) | refine Up.trans ?_ (Hid.out (by assumption))))))) ?_
         rintro e w3 ⟨v, rfl, hv, hu⟩
         have HU3 := Lib.hid hu
         have HV3 := Lib.hid hv
         obtain ⟨s5, A5, n5, c5, t5, F5, m5, k5, rfl, -, -⟩ := hv
         clear hu
         have HRS8 := Lib.hid (HRS.out.up (w' := w3) (by (repeat (first | exact Below.refl _ _ | exact Hid.out (by assumption) | refine Up.trans ?_ (Up.drew _) | refine Up.trans ?_ (Up.drewN _ _) | refine Up.trans ?_ (Up.alloc _ _) | refine Up.trans ?_ (Hid.out (by assumption))))))
         obtain ⟨r0, r1, r2, r3, f0', f1', f2', f3'⟩ := HRS8.out.facts)
      | (have HGUARD := HVw1; go_at_call 84
         refine Calls.mono (HR2.out _ (by (repeat (first | exact Below.refl _ _ | exact Hid.out (by assumption) | refine Up.trans ?_ (Up.drew _) | refine Up.trans ?_ (Up.drewN _ _) | refine Up.trans ?_ (Up.alloc _ _) | refine Up.trans ?_ (Hid.out (by assumption)))))) ?_
         rintro e w2 ⟨v, rfl, hv, hu⟩
         have HU2 := Lib.hid hu
         have HVw2 := Lib.hid hv
         clear hu hv)
      | (go_at_call 84
         refine Calls.mono (HR1.out _ (by (repeat (first | exact Below.refl _ _ | exact Hid.out (by assumption) | refine Up.trans ?_ (Up.drew _) | refine Up.trans ?_ (Up.drewN _ _) | refine Up.trans ?_ (Up.alloc _ _) | refine Up.trans ?_ (Hid.out (by assumption)))))) ?_
         rintro e w1 ⟨v, rfl, hv, hu⟩
         have HU1 := Lib.hid hu
         have HVw1 := Lib.hid hv
         clear hu hv)))
  have hq4 := HRS8.out.stored (.int .i64 s5) (.slice A5 n5 c5) (.int .i64 t5) (.slice F5 m5 k5)
  have HVF : Hid (FV (put4 w3 w.heap.size (.int .i64 s5) (.slice A5 n5 c5) (.int .i64 t5) (.slice F5 m5 k5)) (.agg #[.int .i64 s5, .slice A5 n5 c5, .int .i64 t5, .slice F5 m5 k5]) q) := Lib.hid (by
    obtain ⟨s6, A6, n6, c6, t6, F6, m6, k6, he, p1, p2⟩ := HV3.out
    exact ⟨s6, A6, n6, c6, t6, F6, m6, k6, he, p1.put4 HRS8.out _ _ _ _, p2.put4 HRS8.out _ _ _ _⟩)
  have HUF := Lib.hid ((show Up w w3 by (repeat (first | exact Below.refl _ _ | exact Hid.out (by assumption) | refine Up.trans ?_ (Up.drew _) | refine Up.trans ?_ (Up.drewN _ _) | refine Up.trans ?_ (Up.alloc _ _) | refine Up.trans ?_ (Hid.out (by assumption))))).put4 (show w.heap.size ≤ w.heap.size by omega) (.int .i64 s5) (.slice A5 n5 c5) (.int .i64 t5) (.slice F5 m5 k5))
  unfold put4 at hq4 HVF HUF
  obtain ⟨hq0, hq1, hq5, hq6⟩ := hq4
  go_wp2
  refine bodyPost_ret (by simp [results, Tryz.results84, go_sem, hq0, hq1, hq5, hq6]; try rfl) rfl ?_
  exact ⟨_, rfl, HVF.out, HUF.out⟩
theorem frac_done {w w3 : World} {g : Nat} {s5 : Int} {A5 : Option Addr} {n5 c5 : Nat} {t5 : Int} {F5 : Option Addr} {m5 k5 : Nat} {q : Rat} (hv : FV w3 (.agg #[.int .i64 s5, .slice A5 n5 c5, .int .i64 t5, .slice F5 m5 k5]) q) (hr : Res4 w3 g) (hu : Up w w3) (hg : w.heap.size ≤ g) :
    ((put4 w3 g (.int .i64 s5) (.slice A5 n5 c5) (.int .i64 t5) (.slice F5 m5 k5)).cell? ⟨g, 0, none⟩ = some (.int .i64 s5) ∧ (put4 w3 g (.int .i64 s5) (.slice A5 n5 c5) (.int .i64 t5) (.slice F5 m5 k5)).cell? ⟨g, 1, none⟩ = some (.slice A5 n5 c5) ∧
      (put4 w3 g (.int .i64 s5) (.slice A5 n5 c5) (.int .i64 t5) (.slice F5 m5 k5)).cell? ⟨g, 2, none⟩ = some (.int .i64 t5) ∧ (put4 w3 g (.int .i64 s5) (.slice A5 n5 c5) (.int .i64 t5) (.slice F5 m5 k5)).cell? ⟨g, 3, none⟩ = some (.slice F5 m5 k5)) ∧
    FV (put4 w3 g (.int .i64 s5) (.slice A5 n5 c5) (.int .i64 t5) (.slice F5 m5 k5)) (.agg #[.int .i64 s5, .slice A5 n5 c5, .int .i64 t5, .slice F5 m5 k5]) q ∧ Up w (put4 w3 g (.int .i64 s5) (.slice A5 n5 c5) (.int .i64 t5) (.slice F5 m5 k5)) := by
  refine ⟨hr.stored _ _ _ _, ?_, hu.put4 hg _ _ _ _⟩
  obtain ⟨s6, A6, n6, c6, t6, F6, m6, k6, he, p1, p2⟩ := hv
  exact ⟨s6, A6, n6, c6, t6, F6, m6, k6, he, p1.put4 hr _ _ _ _, p2.put4 hr _ _ _ _⟩
set_option maxHeartbeats 1000000 in
set_option maxRecDepth 10000 in
theorem products_zero (A B : Option Addr) (c d : Nat) (w : World) :
    Calls Tryz.prog 84 #[.slice A 0 c, .slice B 0 d] w fun e w' => ∃ v, e = .returned v ∧ FV w' v 0 ∧ Up w w' := by
  have HO := Lib.hid (fun W => fracOf_any 0 1 0 W rfl rfl (by omega) (by omega) (by omega) (by omega))
  go_enter Tryz.func84, Tryz.ntmps84
  go_wp2_with fail
  have HU := Lib.hid (Up.alloc w (.cells #[.int .i64 0, .slice none 0 0, .int .i64 0, .slice none 0 0] 110))
  have HRS := Lib.hid (Res4.new w)
  generalize w.alloc (.cells #[.int .i64 0, .slice none 0 0, .int .i64 0, .slice none 0 0] 110) = wB at *
  refine Calls.mono (HO.out _) ?_
  rintro e w3 ⟨v, rfl, hv, hu⟩
  have HU3 := Lib.hid hu
  have HV3 := Lib.hid hv
  obtain ⟨s5, A5, n5, c5, t5, F5, m5, k5, rfl, -, -⟩ := hv
  clear hu
  have HRS8 := Lib.hid (HRS.out.up (w' := w3) (by (repeat (first | exact Below.refl _ _ | exact Hid.out (by assumption) | refine Up.trans ?_ (Up.drew _) | refine Up.trans ?_ (Up.drewN _ _) | refine Up.trans ?_ (Up.alloc _ _) | refine Up.trans ?_ (Hid.out (by assumption))))))
  obtain ⟨r0, r1, r2, r3, f0', f1', f2', f3'⟩ := HRS8.out.facts
  obtain ⟨hq4, hvf, huf⟩ := frac_done HV3.out HRS8.out (show Up w w3 by (repeat (first | exact Below.refl _ _ | exact Hid.out (by assumption) | refine Up.trans ?_ (Up.drew _) | refine Up.trans ?_ (Up.drewN _ _) | refine Up.trans ?_ (Up.alloc _ _) | refine Up.trans ?_ (Hid.out (by assumption))))) (Nat.le_refl _)
  have HVF := Lib.hid hvf
  have HUF := Lib.hid huf
  clear hvf huf
  unfold put4 at hq4 HVF HUF
  obtain ⟨hq0, hq1, hq5, hq6⟩ := hq4
  go_wp2
  refine bodyPost_ret (by simp [results, Tryz.results84, go_sem, hq0, hq1, hq5, hq6]; try rfl) rfl ?_
  exact ⟨_, rfl, HVF.out, HUF.out⟩
set_option maxHeartbeats 4000000 in
set_option maxRecDepth 10000 in
theorem products_one (b b2 off off2 c d : Nat) (x1 y1 x2 y2 : Int) (w : World) (hk1 : okNum x1 y1 = true) (hk2 : okNum x2 y2 = true) (hr : RdN w (some ⟨b, off, none⟩) [(x1, y1)]) (hs : RdN w (some ⟨b2, off2, none⟩) [(x2, y2)]) (ht : Tab w) :
    Calls Tryz.prog 84 #[.slice (some ⟨b, off, none⟩) 1 c, .slice (some ⟨b2, off2, none⟩) 1 d] w fun e w' => ∃ v, e = .returned v ∧ FV w' v (ratOf x1 y1 * ratOf x2 y2) ∧ Up w w' := by
  have q1 := ok_bounds hk1
  have q2 := ok_bounds hk2
  obtain ⟨e1, e2⟩ := ratOf_ok hk1
  obtain ⟨e3, e4⟩ := ratOf_ok hk2
  have f1 := ok_FB hk1
  have f2 := ok_FB hk2
  have HO1 := Lib.hid (fun W => fracOf_any x1 y1 (ratOf x1 y1) W e1 e2 (by omega) (by omega) (by omega) (by omega))
  have HO2 := Lib.hid (fun W => fracOf_any x2 y2 (ratOf x2 y2) W e3 e4 (by omega) (by omega) (by omega) (by omega))
  have HP := Lib.hid (fun W u1 u2 (hu : Up w W) (k1 : FV W u1 (ratOf x1 y1)) (k2 : FV W u2 (ratOf x2 y2)) => fracTimes_any u1 u2 _ _ W k1 k2 f1 f2 (ht.up hu))
  generalize ratOf x1 y1 * ratOf x2 y2 = q at *
  generalize ratOf x1 y1 = qa at *
  generalize ratOf x2 y2 = qb at *
  clear q1 q2 e1 e2 e3 e4 f1 f2 hk1 hk2 ht
  have hbl := (one_facts hr).2.2
  have hbl2 := (one_facts hs).2.2
  go_enter Tryz.func84, Tryz.ntmps84
  go_upto_region 7 with fail
  have HU := Lib.hid (Up.alloc w (.cells #[.int .i64 0, .slice none 0 0, .int .i64 0, .slice none 0 0] 110))
  have HRS := Lib.hid (Res4.new w)
  generalize w.alloc (.cells #[.int .i64 0, .slice none 0 0, .int .i64 0, .slice none 0 0] 110) = wB at *
  have HRA := Lib.hid (hr.up (w' := wB) HU.out)
  have HRB := Lib.hid (hs.up (w' := wB) HU.out)
  clear hr hs
  obtain ⟨a0, a1, la⟩ := one_facts HRA.out
  obtain ⟨b0, b1, lb⟩ := one_facts HRB.out
  have hne1 : (b = w.heap.size) = False := eq_false (by omega)
  have hne2 : (w.heap.size = b) = False := eq_false (by omega)
  have hne3 : (b2 = w.heap.size) = False := eq_false (by omega)
  have hne4 : (w.heap.size = b2) = False := eq_false (by omega)
  clear hbl hbl2
  go_region_held3 (fun w' => w'.cell? ⟨b, off, none⟩ = some (.int .i64 x1) ∧ w'.cell? ⟨b, off + 1, none⟩ = some (.int .i64 y1) ∧ w'.cell? ⟨b2, off2, none⟩ = some (.int .i64 x2) ∧ w'.cell? ⟨b2, off2 + 1, none⟩ = some (.int .i64 y2)) (go_keep)
    ((first
      | (go_at_call 120
         refine Calls.mono (HP.out _ _ _ (by (repeat (first | exact Below.refl _ _ | exact Hid.out (by assumption) | refine Up.trans ?_ (Up.drew _) | refine Up.trans ?_ (Up.drewN _ _) | refine Up.trans ?_ (Up.alloc _ _) | refine Up.trans ?_ (Hid.out (by assumption))))) (HVw1.out.up (by (repeat (first | exact Below.refl _ _ | exact Hid.out (by assumption) | refine Up.trans ?_ (Up.drew _) | refine Up.trans ?_ (Up.drewN _ _) | refine Up.trans ?_ (Up.alloc _ _) | refine Up.trans ?_ (Hid.out (by assumption)))))) (HVw2.out.up (by (repeat (first | exact Below.refl _ _ | exact Hid.out (by assumption) | refine Up.trans ?_ (Up.drew _) | refine Up.trans ?_ (Up.drewN _ _) | refine Up.trans ?_ (Up.alloc _ _) | refine Up.trans ?_ (Hid.out (by assumption))))))) ?_
         rintro e w3 ⟨v, rfl, hv, hu⟩
         have HU3 := Lib.hid hu
         have HV3 := Lib.hid hv
         obtain ⟨s5, A5, n5, c5, t5, F5, m5, k5, rfl, -, -⟩ := hv
         clear hu
         have HRS8 := Lib.hid (HRS.out.up (w' := w3) (by (repeat (first | exact Below.refl _ _ | exact Hid.out (by assumption) | refine Up.trans ?_ (Up.drew _) | refine Up.trans ?_ (Up.drewN _ _) | refine Up.trans ?_ (Up.alloc _ _) | refine Up.trans ?_ (Hid.out (by assumption))))))
         obtain ⟨r0, r1, r2, r3, f0', f1', f2', f3'⟩ := HRS8.out.facts
         obtain ⟨a0, a1, la⟩ := one_facts (HRA.out.up (w' := w3) (by (repeat (first | exact Below.refl _ _ | exact Hid.out (by assumption) | refine Up.trans ?_ (Up.drew _) | refine Up.trans ?_ (Up.drewN _ _) | refine Up.trans ?_ (Up.alloc _ _) | refine Up.trans ?_ (Hid.out (by assumption))))))
         obtain ⟨b0, b1, lb⟩ := one_facts (HRB.out.up (w' := w3) (by (repeat (first | exact Below.refl _ _ | exact Hid.out (by assumption) | refine Up.trans ?_ (Up.drew _) | refine Up.trans ?_ (Up.drewN _ _) | refine Up.trans ?_ (Up.alloc _ _) | refine Up.trans ?_ (Hid.out (by assumption)))))))
      | (have HGUARD := HVw1; go_at_call 119
         refine Calls.mono (HO2.out _) ?_
         rintro e w2 ⟨v, rfl, hv, hu⟩
         have HU2 := Lib.hid hu
         have HVw2 := Lib.hid hv
         clear hu hv
         obtain ⟨a0, a1, la⟩ := one_facts (HRA.out.up (w' := w2) (by (repeat (first | exact Below.refl _ _ | exact Hid.out (by assumption) | refine Up.trans ?_ (Up.drew _) | refine Up.trans ?_ (Up.drewN _ _) | refine Up.trans ?_ (Up.alloc _ _) | refine Up.trans ?_ (Hid.out (by assumption))))))
         obtain ⟨b0, b1, lb⟩ := one_facts (HRB.out.up (w' := w2) (by (repeat (first | exact Below.refl _ _ | exact Hid.out (by assumption) | refine Up.trans ?_ (Up.drew _) | refine Up.trans ?_ (Up.drewN _ _) | refine Up.trans ?_ (Up.alloc _ _) | refine Up.trans ?_ (Hid.out (by assumption)))))))
      | (go_at_call 119
         refine Calls.mono (HO1.out _) ?_
         rintro e w1 ⟨v, rfl, hv, hu⟩
         have HU1 := Lib.hid hu
         have HVw1 := Lib.hid hv
         clear hu hv
         obtain ⟨a0, a1, la⟩ := one_facts (HRA.out.up (w' := w1) (by (repeat (first | exact Below.refl _ _ | exact Hid.out (by assumption) | refine Up.trans ?_ (Up.drew _) | refine Up.trans ?_ (Up.drewN _ _) | refine Up.trans ?_ (Up.alloc _ _) | refine Up.trans ?_ (Hid.out (by assumption))))))
         obtain ⟨b0, b1, lb⟩ := one_facts (HRB.out.up (w' := w1) (by (repeat (first | exact Below.refl _ _ | exact Hid.out (by assumption) | refine Up.trans ?_ (Up.drew _) | refine Up.trans ?_ (Up.drewN _ _) | refine Up.trans ?_ (Up.alloc _ _) | refine Up.trans ?_ (Hid.out (by assumption)))))))))
  obtain ⟨hq4, hvf, huf⟩ := frac_done HV3.out HRS8.out (show Up w w3 by (repeat (first | exact Below.refl _ _ | exact Hid.out (by assumption) | refine Up.trans ?_ (Up.drew _) | refine Up.trans ?_ (Up.drewN _ _) | refine Up.trans ?_ (Up.alloc _ _) | refine Up.trans ?_ (Hid.out (by assumption))))) (Nat.le_refl _)
  have HVF := Lib.hid hvf
  have HUF := Lib.hid huf
  clear hvf huf
  unfold put4 at hq4 HVF HUF
  obtain ⟨hq0, hq1, hq5, hq6⟩ := hq4
  go_wp2
  refine bodyPost_ret (by simp [results, Tryz.results84, go_sem, hq0, hq1, hq5, hq6]; try rfl) rfl ?_
  exact ⟨_, rfl, HVF.out, HUF.out⟩
theorem products_any (N : Nat) : ∀ (A B : Option Addr) (c d : Nat) (l m : List (Int × Int)) (w : World), l.length ≤ N → l.length = m.length → l.length ≤ c → l.length ≤ d → l.length ≤ 1000000 → RdN w A l → RdN w B m → okAll l = true → okAll m = true → Tab w →
    Calls Tryz.prog 84 #[.slice A l.length c, .slice B l.length d] w fun e w' => ∃ v, e = .returned v ∧ FV w' v (dotQ l m) ∧ Up w w' := by
  induction N with
  | zero =>
    intro A B c d l m w hN hlm hc hd hn hr hs hl hm ht
    cases l with
    | nil => cases m with
      | nil => exact products_zero A B c d w
      | cons q qs => simp at hlm
    | cons p ps => simp at hN
  | succ N ih =>
    intro A B c d l m w hN hlm hc hd hn hr hs hl hm ht
    rcases Nat.lt_or_ge l.length 2 with h2 | h2
    · match l, m, hlm with
      | [], [], _ => exact products_zero A B c d w
      | [p], [q], _ =>
        obtain ⟨b, off, rfl, -⟩ := hr (by simp)
        obtain ⟨b2, off2, rfl, -⟩ := hs (by simp)
        have h := products_one b b2 off off2 c d p.1 p.2 q.1 q.2 w (okAll_get hl (k := 0) (by simp)) (okAll_get hm (k := 0) (by simp)) hr hs ht
        have e : dotQ [p] [q] = ratOf p.1 p.2 * ratOf q.1 q.2 := by simp [dotQ, Rat.add_zero]
        rw [e]
        exact h
      | _ :: _ :: _, _, _ => simp only [List.length_cons] at h2; omega
    · obtain ⟨b, off, rfl, -⟩ := hr (by intro e; subst e; simp at h2)
      obtain ⟨b2, off2, rfl, -⟩ := hs (by intro e; rw [e] at hlm; simp only [List.length_nil] at hlm; omega)
      have hsp := dotQ_split l m (l.length / 2) hlm
      have ht1 : (l.take (l.length / 2)).length = l.length / 2 := by rw [List.length_take]; omega
      have ht2 : (m.take (l.length / 2)).length = l.length / 2 := by rw [List.length_take]; omega
      have hd1 : (l.drop (l.length / 2)).length = l.length - l.length / 2 := by rw [List.length_drop]
      have hd2 : (m.drop (l.length / 2)).length = l.length - l.length / 2 := by rw [List.length_drop, hlm]
      refine products_two b b2 off off2 l.length (l.length / 2) c d (dotQ (l.take (l.length / 2)) (m.take (l.length / 2))) (dotQ (l.drop (l.length / 2)) (m.drop (l.length / 2))) (dotQ l m) w hc hd hn h2 rfl
        (Lib.hid fun W hu => ?_) (Lib.hid fun W hu => ?_) (Lib.hid fun W u1 u2 hu k1 k2 => ?_)
      · have h := ih (some ⟨b, off, none⟩) (some ⟨b2, off2, none⟩) c d (l.take (l.length / 2)) (m.take (l.length / 2)) W (by rw [ht1]; omega) (by rw [ht1, ht2]) (by rw [ht1]; omega) (by rw [ht1]; omega) (by rw [ht1]; omega) ((hr.up hu).take _) ((hs.up hu).take _) (okAll_take _ hl) (okAll_take _ hm) (ht.up hu)
        rw [ht1] at h
        exact h
      · have h := ih (some ⟨b, off + l.length / 2 * 2, none⟩) (some ⟨b2, off2 + l.length / 2 * 2, none⟩) (c - l.length / 2) (d - l.length / 2) (l.drop (l.length / 2)) (m.drop (l.length / 2)) W (by rw [hd1]; omega) (by rw [hd1, hd2]) (by rw [hd1]; omega) (by rw [hd1]; omega) (by rw [hd1]; omega) ((hr.up hu).drop _) ((hs.up hu).drop _) (okAll_drop _ hl) (okAll_drop _ hm) (ht.up hu)
        rw [hd1] at h
        exact h
      · have b1 := dotQ_FB (l.take (l.length / 2)) (m.take (l.length / 2)) (by rw [ht1, ht2]) (okAll_take _ hl) (okAll_take _ hm)
        have b2 := dotQ_FB (l.drop (l.length / 2)) (m.drop (l.length / 2)) (by rw [hd1, hd2]) (okAll_drop _ hl) (okAll_drop _ hm)
        rw [ht1] at b1
        rw [hd1] at b2
        rw [← hsp]
        exact fracPlus_any u1 u2 _ _ W k1 k2 (b1.mono (by omega)) (b2.mono (by omega)) (ht.up hu)
end Go.Proofs.YtacbjbnocepnaaaGreatDoor
namespace Go.Proofs.YtacbjbnocepnaaaGreatDoor
open Go.RowKit Fm
set_option maxHeartbeats 2000000 in
set_option maxRecDepth 10000 in
theorem numDot_ok (A B : Option Addr) (c d n : Nat) (q : Rat) (X Y E : Int) (w : World)
    (HV1 : Hid (∀ W, Up w W → Calls Tryz.prog 82 #[.slice A n c] W fun e w' => e = .returned (.bool true) ∧ Up W w'))
    (HV2 : Hid (∀ W, Up w W → Calls Tryz.prog 82 #[.slice B n d] W fun e w' => e = .returned (.bool true) ∧ Up W w'))
    (HP : Hid (∀ W, Up w W → Calls Tryz.prog 84 #[.slice A n c, .slice B n d] W fun e w' => ∃ v, e = .returned v ∧ FV w' v q ∧ Up W w'))
    (HL : Hid (∀ W u, FV W u q → Calls Tryz.prog 83 #[u] W fun e w' => e = .returned (.tuple #[.agg #[.int .i64 X, .int .i64 Y], .int .i64 E]) ∧ Up W w')) :
    Calls Tryz.prog 43 #[.slice A n c, .slice B n d] w fun e w' => e = .returned (.tuple #[.agg #[.int .i64 X, .int .i64 Y], .int .i64 E]) ∧ Up w w' := by
  go_enter Tryz.func43, Tryz.ntmps43
  go_wp2_with fail
  have HR := Lib.hid (CellN.new w 0 0)
  have HU := Lib.hid (Up.alloc w (.cells #[.int .i64 0, .int .i64 0] 55))
  generalize w.alloc (.cells #[.int .i64 0, .int .i64 0] 55) = wB at *
  refine Calls.mono (HV1.out _ (by (repeat (first | exact Below.refl _ _ | exact Hid.out (by assumption) | refine Up.trans ?_ (Up.drew _) | refine Up.trans ?_ (Up.drewN _ _) | refine Up.trans ?_ (Up.alloc _ _) | refine Up.trans ?_ (Hid.out (by assumption)))))) ?_
  rintro e w1 ⟨rfl, hu⟩
  have HU1 := Lib.hid hu
  clear hu
  go_wp2_with fail
  refine Calls.mono (HV2.out _ (by (repeat (first | exact Below.refl _ _ | exact Hid.out (by assumption) | refine Up.trans ?_ (Up.drew _) | refine Up.trans ?_ (Up.drewN _ _) | refine Up.trans ?_ (Up.alloc _ _) | refine Up.trans ?_ (Hid.out (by assumption)))))) ?_
  rintro e w2 ⟨rfl, hu⟩
  have HU2 := Lib.hid hu
  clear hu
  go_wp2_with fail
  refine Calls.mono (HP.out _ (by (repeat (first | exact Below.refl _ _ | exact Hid.out (by assumption) | refine Up.trans ?_ (Up.drew _) | refine Up.trans ?_ (Up.drewN _ _) | refine Up.trans ?_ (Up.alloc _ _) | refine Up.trans ?_ (Hid.out (by assumption)))))) ?_
  rintro e w3 ⟨v, rfl, hv, hu⟩
  have HU3 := Lib.hid hu
  have HV3 := Lib.hid hv
  clear hu hv
  go_wp2_with fail
  refine Calls.mono (HL.out _ _ HV3.out) ?_
  rintro e w4 ⟨rfl, hu⟩
  have HU4 := Lib.hid hu
  clear hu
  have HR8 := Lib.hid (HR.out.up (w' := w4) (by (repeat (first | exact Below.refl _ _ | exact Hid.out (by assumption) | refine Up.trans ?_ (Up.drew _) | refine Up.trans ?_ (Up.drewN _ _) | refine Up.trans ?_ (Up.alloc _ _) | refine Up.trans ?_ (Hid.out (by assumption))))))
  obtain ⟨r0, r1, g0, g1, lr⟩ := HR8.out.facts
  have HFF := Lib.hid ((HR8.out.set X Y).facts)
  have HUF := Lib.hid ((show Up w w4 by (repeat (first | exact Below.refl _ _ | exact Hid.out (by assumption) | refine Up.trans ?_ (Up.drew _) | refine Up.trans ?_ (Up.drewN _ _) | refine Up.trans ?_ (Up.alloc _ _) | refine Up.trans ?_ (Hid.out (by assumption))))).stored (show w.heap.size ≤ w.heap.size by omega) (.int .i64 X) (.int .i64 Y))
  go_wp2
  obtain ⟨z0, z1, -, -, -⟩ := HFF.out
  refine bodyPost_ret (by simp [results, Tryz.results43, go_sem, z0, z1]; try rfl) rfl ?_
  exact ⟨rfl, HUF.out⟩
end Go.Proofs.YtacbjbnocepnaaaGreatDoor
namespace Go.Proofs.YtacbjbnocepnaaaGreatDoor
open Go.RowKit Fm
end Go.Proofs.YtacbjbnocepnaaaGreatDoor
namespace Go.Proofs.YtacbjbnocepnaaaGreatDoor
open Go.RowKit Fm
end Go.Proofs.YtacbjbnocepnaaaGreatDoor
namespace Go.Proofs.YtacbjbnocepnaaaGreatDoor
open Go.RowKit Fm
end Go.Proofs.YtacbjbnocepnaaaGreatDoor
namespace Go.Proofs.YtacbjbnocepnaaaGreatDoor
open Go.RowKit Fm
end Go.Proofs.YtacbjbnocepnaaaGreatDoor
namespace Go.Proofs.YtacbjbnocepnaaaGreatDoor
open Go.RowKit Fm
set_option maxHeartbeats 1000000 in
set_option maxRecDepth 10000 in
theorem linValidNums_any (A : Option Addr) (c : Nat) (xs : List (Int × Int)) (w : World) (hc : xs.length ≤ c) (hcm : c ≤ maxLen) (hr : RdN w A xs) (hx : ∀ p, p ∈ xs → Rng p.1 p.2) (ht : Tab w) :
    Calls Tryz.prog 41 #[.slice A xs.length c] w fun e w' => e = .returned (.bool (okAll xs)) ∧ Up w w' := by
  have hlen := len_le hc hcm
  clear hcm hc
  go_enter Tryz.func41, Tryz.ntmps41
  go_wp2
  go_loopw [7] (fun i wr => ∃ k : Nat, k ≤ xs.length ∧ i = .int .i64 k ∧ Hid (okAll (xs.take k) = true) ∧ Up w wr) (fun i _ => xs.length - (intOf i).toNat)
  case atStart => exact ⟨0, by omega, rfl, rfl, Up.refl _⟩
  case round =>
    obtain ⟨k, hk, rfl, HK, hup⟩ := hrel
    have HU := Lib.hid hup
    have hrA := hr.up hup
    clear hup
    by_cases hkl : k < xs.length
    · obtain ⟨b, off, rfl, hbb, hcell⟩ := hrA.at_ hkl
      have hR := hx xs[k] (List.getElem_mem hkl)
      obtain ⟨x, hxx⟩ : ∃ x, x = xs[k].1 := ⟨_, rfl⟩
      obtain ⟨y, hyy⟩ : ∃ y, y = xs[k].2 := ⟨_, rfl⟩
      rw [← hxx, ← hyy] at hcell hR
      obtain ⟨c0, c1⟩ := hcell
      have HV := Lib.hid (fun W (hu : Up w W) => valid_any x y W hR.1 hR.2.1 hR.2.2.1 hR.2.2.2 (ht.up hu))
      have HNEXT : Hid (okAll (xs.take (k + 1)) = okNum x y) := by
        unfold Hid
        rw [hxx, hyy]
        have := HK.out
        unfold okAll at this ⊢
        rw [List.take_succ_eq_append_getElem hkl, List.all_append, this]
        simp
      have HFALSE : Hid (okNum x y = false → okAll xs = false) := Lib.hid (fun h => by
        rw [hxx, hyy] at h
        unfold okAll
        rw [List.all_eq_false]
        exact ⟨xs[k], List.getElem_mem hkl, by simp [h]⟩)
      clear hxx hyy hR hrA HK
      go_wp2_with fail
      have HUA := Lib.hid (Up.alloc wr (.cells #[.int .i64 x, .int .i64 y] 55))
      refine Calls.mono (HV.out _ (by (repeat (first | exact Below.refl _ _ | exact Hid.out (by assumption) | refine Up.trans ?_ (Up.drew _) | refine Up.trans ?_ (Up.drewN _ _) | refine Up.trans ?_ (Up.alloc _ _) | refine Up.trans ?_ (Hid.out (by assumption)))))) ?_
      rintro e w1 ⟨rfl, hu1⟩
      have HU1 := Lib.hid hu1
      clear hu1 c0 c1 hbb hr
      rcases hv : okNum x y with _ | _
      · have HA := Lib.hid (HFALSE.out hv)
        clear HNEXT HFALSE hv
        go_wp2
        go_ret
        exact ⟨by rw [HA.out]; rfl, by (repeat (first | exact Below.refl _ _ | exact Hid.out (by assumption) | refine Up.trans ?_ (Up.drew _) | refine Up.trans ?_ (Up.drewN _ _) | refine Up.trans ?_ (Up.alloc _ _) | refine Up.trans ?_ (Hid.out (by assumption))))⟩
      · rw [hv] at HNEXT
        clear HFALSE hv
        go_wp2_with fail
        go_roundw
        case rel => exact ⟨k + 1, hkl, by simp, HNEXT, by (repeat (first | exact Below.refl _ _ | exact Hid.out (by assumption) | refine Up.trans ?_ (Up.drew _) | refine Up.trans ?_ (Up.drewN _ _) | refine Up.trans ?_ (Up.alloc _ _) | refine Up.trans ?_ (Hid.out (by assumption))))⟩
        case measure => simp [intOf]; omega
    · have HE : Hid (okAll xs = true) := by
        have := HK.out
        rw [List.take_of_length_le (by omega)] at this
        exact this
      clear HK
      go_wp2
      go_ret
      exact ⟨by rw [HE.out]; rfl, HU.out⟩
def validP (n : Int) (xs : List (Int × Int)) : Bool := dimI n && decide ((xs.length : Int) = n) && okAll xs
set_option maxRecDepth 10000 in
theorem refValidPoint_any (A : Option Addr) (c : Nat) (n : Int) (xs : List (Int × Int)) (w : World) (hc : xs.length ≤ c) (hcm : c ≤ maxLen) (hr : RdN w A xs) (hx : ∀ p, p ∈ xs → Rng p.1 p.2) :
    Calls Tryz.prog 23 #[.int .i64 n, .slice A xs.length c] w fun e w' => e = .returned (.bool (validP n xs)) ∧ Up w w' := by
  have HV := Lib.hid (fun W (hu : Up w W) => refAll_any A c xs W hc hcm (hr.up hu) hx)
  have HE : Hid (validP n xs = (dimI n && decide ((xs.length : Int) = n) && okAll xs)) := Lib.hid rfl
  clear hr hx hc hcm
  by_cases h0 : 0 ≤ n
  · by_cases h8 : n ≤ 8
    · by_cases h2 : (xs.length : Int) = n
      · have HE2 : Hid (validP n xs = okAll xs) := Lib.hid (by rw [HE.out]; simp [dimI, h0, h8, h2])
        have h2a : ((xs.length : Int) == n) = true := by simpa using h2
        clear HE h2
        go_enter Tryz.func23, Tryz.ntmps23
        go_wp2_with fail
        refine Calls.mono (HV.out _ (by (repeat (first | exact Below.refl _ _ | exact Hid.out (by assumption) | refine Up.trans ?_ (Up.drew _) | refine Up.trans ?_ (Up.drewN _ _) | refine Up.trans ?_ (Up.alloc _ _) | refine Up.trans ?_ (Hid.out (by assumption)))))) ?_
        rintro e w2 ⟨rfl, hu⟩
        have HU2 := Lib.hid hu
        clear hu
        go_wp2
        go_ret
        exact ⟨by rw [HE2.out]; rfl, by (repeat (first | exact Below.refl _ _ | exact Hid.out (by assumption) | refine Up.trans ?_ (Up.drew _) | refine Up.trans ?_ (Up.drewN _ _) | refine Up.trans ?_ (Up.alloc _ _) | refine Up.trans ?_ (Hid.out (by assumption))))⟩
      · have HE2 : Hid (validP n xs = false) := Lib.hid (by rw [HE.out]; simp [h2])
        have h2a : ((xs.length : Int) == n) = false := by simpa using h2
        clear HE h2
        go_enter Tryz.func23, Tryz.ntmps23
        go_wp2
        go_ret
        exact ⟨by rw [HE2.out]; rfl, by (repeat (first | exact Below.refl _ _ | exact Hid.out (by assumption) | refine Up.trans ?_ (Up.drew _) | refine Up.trans ?_ (Up.drewN _ _) | refine Up.trans ?_ (Up.alloc _ _) | refine Up.trans ?_ (Hid.out (by assumption))))⟩
    · have HE2 : Hid (validP n xs = false) := Lib.hid (by rw [HE.out]; simp [dimI, h8])
      clear HE
      go_enter Tryz.func23, Tryz.ntmps23
      go_wp2
      go_ret
      exact ⟨by rw [HE2.out]; rfl, by (repeat (first | exact Below.refl _ _ | exact Hid.out (by assumption) | refine Up.trans ?_ (Up.drew _) | refine Up.trans ?_ (Up.drewN _ _) | refine Up.trans ?_ (Up.alloc _ _) | refine Up.trans ?_ (Hid.out (by assumption))))⟩
  · have HE2 : Hid (validP n xs = false) := Lib.hid (by rw [HE.out]; simp [dimI, h0])
    clear HE
    go_enter Tryz.func23, Tryz.ntmps23
    go_wp2
    go_ret
    exact ⟨by rw [HE2.out]; rfl, by (repeat (first | exact Below.refl _ _ | exact Hid.out (by assumption) | refine Up.trans ?_ (Up.drew _) | refine Up.trans ?_ (Up.drewN _ _) | refine Up.trans ?_ (Up.alloc _ _) | refine Up.trans ?_ (Hid.out (by assumption))))⟩
end Go.Proofs.YtacbjbnocepnaaaGreatDoor
namespace Go.Proofs.YtacbjbnocepnaaaGreatDoor
open Go.RowKit Fm
theorem rowF_at {f : List Int × Int} {i : Nat} (hi : i < f.1.length) : (rowF f)[i]'(by simp [rowF]; omega) = f.1[i] := by simp [rowF, List.getElem_append_left hi]
theorem rowF_last (f : List Int × Int) : (rowF f)[f.1.length]'(by simp [rowF]) = f.2 := by simp [rowF]
set_option maxHeartbeats 1000000 in
set_option maxRecDepth 10000 in
theorem linAt_any (A : Option Addr) (c i : Nat) (f : List Int × Int) (w : World) (hi : i < (rowF f).length) (hr : RdI w A f.1) :
    Calls Tryz.prog 42 #[.agg #[.slice A f.1.length c, .int .i64 f.2], .int .i64 i] w fun e w' => e = .returned (.agg #[.int .i64 (rowF f)[i], .int .i64 1]) ∧ Up w w' := by
  have HC := Lib.hid (CellF.new w A f.1.length c f.2)
  have hi2 : i ≤ f.1.length := by simp [rowF] at hi; omega
  have hcn := fun x => (CellN.new (w.alloc (.cells #[.slice A f.1.length c, .int .i64 f.2] 28)) x 1).facts
  simp only [size_alloc] at hcn
  have HCN := Lib.hid hcn
  clear hcn
  have HU := Lib.hid (fun x : Int => (Up.alloc w (.cells #[.slice A f.1.length c, .int .i64 f.2] 28)).trans (Up.alloc _ (.cells #[.int .i64 x, .int .i64 1] 55)))
  by_cases he : i = f.1.length
  · subst he
    have HE := Lib.hid (rowF_last f)
    go_enter Tryz.func42, Tryz.ntmps42
    go_wp2
    obtain ⟨z0, z1, -, -, -⟩ := HCN.out f.2
    refine bodyPost_ret (by simp [results, Tryz.results42, go_sem, z0, z1]; try rfl) rfl ?_
    exact ⟨by rw [HE.out], HU.out _⟩
  · have hlt : i < f.1.length := by omega
    have hne : ((i : Int) == (f.1.length : Int)) = false := by simp; omega
    have HE := Lib.hid (rowF_at hlt)
    obtain ⟨b, off, rfl, hbb, c0⟩ := hr.at_ hlt
    have c1 := (Up.alloc w (.cells #[.slice (some ⟨b, off, none⟩) f.1.length c, .int .i64 f.2] 28)).cells.1 _ (off + i) hbb
    rw [c0] at c1
    have c2 := ((Up.alloc w (.cells #[.slice (some ⟨b, off, none⟩) f.1.length c, .int .i64 f.2] 28)).trans (Up.alloc _ (.cells #[.int .i64 0, .int .i64 0] 55))).cells.1 _ (off + i) hbb
    rw [c0] at c2
    have i0 : (0 : Int) ≤ (i : Int) := by omega
    have i1 : (i : Int) < (f.1.length : Int) := by omega
    generalize f.1[i] = y at *
    clear he
    go_enter Tryz.func42, Tryz.ntmps42
    go_wp2
    obtain ⟨z0, z1, -, -, -⟩ := HCN.out y
    refine bodyPost_ret (by simp [results, Tryz.results42, go_sem, z0, z1]; try rfl) rfl ?_
    exact ⟨by rw [HE.out], HU.out _⟩
end Go.Proofs.YtacbjbnocepnaaaGreatDoor
namespace Go.Proofs.YtacbjbnocepnaaaGreatDoor
open Go.RowKit Fm
theorem mkNums0 (n : Nat) (hn : n ≤ 4294967296) (w : World) : (Instr.makeSlice 23 (.int .i64 0) (.int .i64 (n : Int))).run Tryz.prog w =
    .ok (.slice (some ⟨w.heap.size, 0, none⟩) 0 n) (w.alloc (.cells (zeroNums n) 55)) := by
  obtain ⟨i0, hi, hz0, hz1, hz2⟩ := info_parts info_numz
  have h := run_make (P := Tryz.prog) w 23 55 i0 (.agg #[.int .i64 0, .int .i64 0]) Tryz.underlying23 hi hz0 .i64 .i64 0 n (by omega) (by omega) (by rw [hz2]; omega) (by omega)
  rw [h, hz1]; simp only [Int.toNat_natCast, Int.toNat_zero, zeroNums]
theorem zeroNums_nod (n : Nat) : ∀ u ∈ (zeroNums n).toList, NoDig u := by
  intro u hu
  obtain ⟨j, hj, rfl⟩ := List.mem_iff_getElem.1 hu
  rw [Array.getElem_toList]
  rcases Nat.mod_two_eq_zero_or_one j with h | h
  · simp [zeroNums, madeCells, Value.cells, h]; exact NoDig.int _
  · simp [zeroNums, madeCells, Value.cells, h]; exact NoDig.int _
theorem OwE.madeN (w0 w : World) (n : Nat) (hn : n ≤ 4294967296) (hu : Up w0 w) : OwE eltN w0 (w.alloc (.cells (zeroNums n) 55)) 55 (.slice (some ⟨w.heap.size, 0, none⟩) 0 n) [] :=
  ⟨[], trivial, World.ownsRow_made w (zeroNums n) n hu.size (by unfold maxLen; omega) (by simp [zeroNums, madeCells]; rfl), fun g hg => by cases hg; exact nodig_heap (heap_alloc_new w _) (zeroNums_nod n)⟩
def valQ (f : List Int × Int) (xs : List (Int × Int)) : Rat := dotQ ((rowF f).map fun y => (y, (1 : Int))) (xs ++ [(1, 1)])
theorem okNum_one {y : Int} (h : limI y = true) : okNum y 1 = true := by
  simp only [limI, decide_eq_true_eq] at h
  simp only [okNum, decide_eq_true_eq]
  exact ⟨by omega, by omega, by omega, by omega, by simp⟩
theorem validP_ok {n : Int} {xs : List (Int × Int)} (hp : validP n xs = true) : okAll xs = true := by
  simp only [validP, Bool.and_eq_true] at hp
  exact hp.2
theorem numDot_val (A B : Option Addr) (c d : Nat) (l m : List (Int × Int)) (w : World) (hlm : l.length = m.length) (hn : l.length ≤ 1000) (hc : l.length ≤ c) (hcm : c ≤ maxLen) (hd : m.length ≤ d) (hdm : d ≤ maxLen) (hr : RdN w A l) (hs : RdN w B m) (hl : okAll l = true) (hm : okAll m = true) (hx : ∀ p, p ∈ l → Rng p.1 p.2) (hy : ∀ p, p ∈ m → Rng p.1 p.2) (ht : Tab w) :
    Calls Tryz.prog 43 #[.slice A l.length c, .slice B m.length d] w fun e w' => e = .returned (.tuple #[.agg #[.int .i64 (numX true (dotQ l m)), .int .i64 (numY true (dotQ l m))], .int .i64 (numE true (dotQ l m))]) ∧ Up w w' := by
  have HN1 := Lib.hid (fun W (hu : Up w W) => numAllValid_any A c l W hc hcm (hr.up hu) hx (ht.up hu))
  have HN2 := Lib.hid (fun W (hu : Up w W) => numAllValid_any B d m W hd hdm (hs.up hu) hy (ht.up hu))
  rw [hl] at HN1
  rw [hm, ← hlm] at HN2
  rw [← hlm]
  exact numDot_ok A B c d l.length (dotQ l m) _ _ _ w HN1 HN2 (Lib.hid fun W' hu' => products_any l.length A B c d l m W' (Nat.le_refl _) hlm hc (by omega) (by omega) (hr.up hu') (hs.up hu') hl hm (ht.up hu')) (Lib.hid fun W' u k => by
    have := limited_any u (dotQ l m) W' k
    simpa only [numX, numY, numE, Bool.true_and, if_true] using this)
end Go.Proofs.YtacbjbnocepnaaaGreatDoor
namespace Go.Proofs.YtacbjbnocepnaaaGreatDoor
open Go.RowKit Fm
theorem rowF_lim {n : Int} {f : List Int × Int} (hv : validF n f = true) : (rowF f).all limI = true := by
  simp only [validF, Bool.and_eq_true] at hv
  simp [rowF, hv.1.2]
  have := hv.2
  rw [List.all_eq_true] at this
  exact this
end Go.Proofs.YtacbjbnocepnaaaGreatDoor
namespace Go.Proofs.YtacbjbnocepnaaaGreatDoor
open Go.RowKit Fm
end Go.Proofs.YtacbjbnocepnaaaGreatDoor
namespace Go.Proofs.YtacbjbnocepnaaaGreatDoor
open Go.RowKit Fm
end Go.Proofs.YtacbjbnocepnaaaGreatDoor
namespace Go.Proofs.YtacbjbnocepnaaaGreatDoor
open Go.RowKit Fm
def ratsOf (xs : List (Int × Int)) : List Rat := xs.map fun p => ratOf p.1 p.2
theorem eltQ.small {w : World} {s s2 : Int} {g g2 : Bool} {A A2 : Option Addr} {n c n2 c2 : Nat} {q : Rat} (h : RQ w (.agg #[.int .i64 s, .bool g, .slice A n c, .int .i64 s2, .bool g2, .slice A2 n2 c2]) q) (h1 : q.num.natAbs < 2305843009213693952) (h2 : q.den < 2305843009213693952) {o : Option Nat} : eltQ.rel w o [.int .i64 s, .bool g, .slice A n c, .int .i64 s2, .bool g2, .slice A2 n2 c2] q := by
  obtain ⟨s', s2', g', g2', A', A2', n', c', n2', c2', e, h, k⟩ := h
  cases e
  refine ⟨s, g, A, n, c, s2, g2, A2, n2, c2, rfl, ?_, ?_⟩
  · rcases h.ria with h | ⟨_, _, h3, _⟩
    · exact .inl h
    · omega
  · rcases k.ria with h | ⟨_, _, h3, _⟩
    · exact .inl h
    · rw [Int.natAbs_natCast] at h3; omega
set_option maxHeartbeats 1000000 in
set_option maxRecDepth 10000 in
theorem refRats_any (A : Option Addr) (c : Nat) (xs : List (Int × Int)) (w : World) (hn : xs.length ≤ 1000000) (hr : RdN w A xs) (hk : okAll xs = true) :
    Calls Tryz.prog 30 #[.slice A xs.length c] w fun e w' => ∃ A' c', e = .returned (.slice A' (ratsOf xs).length c') ∧ RdE eltQ w' A' (ratsOf xs) ∧ Up w w' := by
  go_enter Tryz.func30, Tryz.ntmps30
  go_wp2
  go_loopw [3, 8] (fun v i wr => ∃ k : Nat, k ≤ xs.length ∧ i = .int .i64 k ∧ Hid (OwE eltQ w wr 50 v (ratsOf (xs.take k))) ∧ Hid (Up w wr)) (fun _ i _ => xs.length - (intOf i).toNat)
  case atStart => exact ⟨0, by omega, rfl, Lib.hid (OwE.nil _ _ _ _), Lib.hid (Up.refl _)⟩
  case round =>
    obtain ⟨k, hkk, rfl, HOW, HU⟩ := hrel
    by_cases hkl : k < xs.length
    · obtain ⟨b, off, rfl, hbb, hcell⟩ := (hr.up HU.out).at_ hkl
      have hok := okAll_get hk hkl
      have HNEXT : Hid (ratsOf (xs.take (k + 1)) = ratsOf (xs.take k) ++ [ratOf xs[k].1 xs[k].2]) := Lib.hid (by unfold ratsOf; rw [List.take_succ_eq_append_getElem hkl, List.map_append]; rfl)
      have HLEN : Hid ((ratsOf (xs.take k)).length ≤ 1000000000) := Lib.hid (by unfold ratsOf; rw [List.length_map, List.length_take]; omega)
      obtain ⟨x, hxx⟩ : ∃ x, x = xs[k].1 := ⟨_, rfl⟩
      obtain ⟨y, hyy⟩ : ∃ y, y = xs[k].2 := ⟨_, rfl⟩
      rw [← hxx, ← hyy] at hcell hok HNEXT
      obtain ⟨c0, c1⟩ := hcell
      have HT := Lib.hid (fun W => refTo_q x y W hok)
      have HSM := Lib.hid (And.intro (ratOf_ok hok) (ok_bounds hok))
      clear hxx hyy hok
      go_wp2_with fail
      have HUA := Lib.hid (Up.alloc wr (.cells #[.int .i64 x, .int .i64 y] 55))
      refine Calls.mono (HT.out _) ?_
      rintro e w1 ⟨v, rfl, hv, hu1⟩
      have HU1 := Lib.hid hu1
      have HV := Lib.hid hv
      obtain ⟨s, s2, g, g2, A5, A6, n5, c5, n6, c6, rfl, -⟩ := hv
      clear hu1 c0 c1 hbb hr
      go_wp2_with (at_builtin; refine wpList_pushQ eltQ w rfl (.tmp 12) (.tmp 15) 61 50 rfl _ 80 Tryz.underlying61 info_rq rfl zrq_nod (by decide) _ (ratsOf (xs.take k)) rfl (HOW.out.up ((HUA.out.trans HU1.out).trans (Up.alloc _ _))) (by (repeat (first | exact Below.refl _ _ | exact Hid.out (by assumption) | refine Up.trans ?_ (Up.drew _) | refine Up.trans ?_ (Up.drewN _ _) | refine Up.trans ?_ (Up.alloc _ _) | refine Up.trans ?_ (Hid.out (by assumption))))) ⟨w1.heap.size, 0, none⟩ rfl [.int .i64 s, .bool g, .slice A5 n5 c5, .int .i64 s2, .bool g2, .slice A6 n6 c6] (ratOf x y) (new_cells w1 [.int .i64 s, .bool g, .slice A5 n5 c5, .int .i64 s2, .bool g2, .slice A6 n6 c6] _) (eltQ.small (HV.out.up (Up.alloc _ _)) (by obtain ⟨⟨e1, e2⟩, h1, h2, h3, h4⟩ := HSM.out; omega) (by obtain ⟨⟨e1, e2⟩, h1, h2, h3, h4⟩ := HSM.out; omega)) HLEN.out ?_; intro v' w' hown' hup')
      exact ⟨⟨k + 1, by omega, by simp, by rw [HNEXT.out]; exact Lib.hid hown', Lib.hid hup'⟩, by simp [intOf]; omega⟩
    · have hke : k = xs.length := by omega
      subst hke
      rw [List.take_of_length_le (Nat.le_refl _)] at HOW
      obtain ⟨A5, c5, rfl, -, -, h3, -⟩ := HOW.out.read eltQ_none
      have H3 := Lib.hid h3
      clear h3
      go_wp2
      go_ret
      exact ⟨A5, c5, rfl, H3.out, HU.out⟩
end Go.Proofs.YtacbjbnocepnaaaGreatDoor
namespace Go.Proofs.YtacbjbnocepnaaaGreatDoor
open Go.RowKit Fm
def evalQ (zs : List Int) (x : Int) (qs : List Rat) : Rat := (List.zipWith (fun (z : Int) (q : Rat) => (z : Rat) * q) zs qs).foldl (· + ·) (x : Rat)
theorem foldl_dot (zs : List Int) : ∀ (xs : List (Int × Int)) (a : Rat), zs.length = xs.length → (List.zipWith (fun (z : Int) (q : Rat) => (z : Rat) * q) zs (ratsOf xs)).foldl (· + ·) a = a + dotQ (zs.map fun y => (y, (1 : Int))) xs := by
  induction zs with
  | nil => intro xs a h; simp [dotQ, Rat.add_zero]
  | cons z zs ih =>
    intro xs a h
    cases xs with
    | nil => simp at h
    | cons p xs =>
      have := ih xs (a + (z : Rat) * ratOf p.1 p.2) (by simpa using h)
      simp only [ratsOf, List.map_cons, List.zipWith_cons_cons, List.foldl_cons, dotQ, ratOf_one] at this ⊢
      rw [this, Rat.add_assoc]
theorem evalQ_dot (zs : List Int) (x : Int) (xs : List (Int × Int)) (h : zs.length = xs.length) : evalQ zs x (ratsOf xs) = (x : Rat) + dotQ (zs.map fun y => (y, (1 : Int))) xs := foldl_dot zs xs _ h
theorem evalQ_val (f : List Int × Int) (xs : List (Int × Int)) (h : f.1.length = xs.length) : evalQ f.1 f.2 (ratsOf xs) = valQ f xs := by
  rw [evalQ_dot _ _ _ h]
  unfold valQ rowF
  rw [List.map_append, dotQ_append _ _ _ _ (by simpa using h)]
  simp only [List.map_cons, List.map_nil, dotQ, ratOf_one]
  rw [Rat.add_comm, Rat.add_zero, Rat.intCast_one, Rat.mul_one]
theorem ratsOf_take (xs : List (Int × Int)) (k : Nat) : (ratsOf xs).take k = ratsOf (xs.take k) := by unfold ratsOf; rw [List.map_take]
theorem lim_okAll {zs : List Int} (h : zs.all limI = true) : okAll (zs.map fun y => (y, (1 : Int))) = true := by
  unfold okAll
  rw [List.all_map, List.all_eq_true]
  rw [List.all_eq_true] at h
  intro y hy
  exact okNum_one (h y hy)
theorem evalQ_QB (zs : List Int) (x : Int) (xs : List (Int × Int)) (h : zs.length = xs.length) (hn : zs.length ≤ 8) (hz : zs.all limI = true) (hx : limI x = true) (ho : okAll xs = true) (k : Nat) (hk : k ≤ zs.length) : QB (evalQ (zs.take k) x ((ratsOf xs).take k)) 80 := by
  rw [ratsOf_take, evalQ_dot _ _ _ (by rw [List.length_take, List.length_take, h])]
  have h1 : QB (x : Rat) 3 := by
    simp only [limI, decide_eq_true_eq] at hx
    exact int_QB (by omega) (by omega)
  have h2 := dotQ_QB ((zs.take k).map fun y => (y, (1 : Int))) (xs.take k) (by rw [List.length_map, List.length_take, List.length_take, h]) (lim_okAll (by rw [List.all_eq_true] at hz ⊢; exact fun y hy => hz y (List.mem_of_mem_take hy))) (okAll_take k ho)
  rw [List.length_map, List.length_take] at h2
  exact h1.add h2 (by omega)
end Go.Proofs.YtacbjbnocepnaaaGreatDoor
namespace Go.Proofs.YtacbjbnocepnaaaGreatDoor
open Go.RowKit Fm
end Go.Proofs.YtacbjbnocepnaaaGreatDoor
namespace Go.Proofs.YtacbjbnocepnaaaGreatDoor
open Go.RowKit Fm
end Go.Proofs.YtacbjbnocepnaaaGreatDoor
namespace Go.Proofs.YtacbjbnocepnaaaGreatDoor
open Go.RowKit Fm
end Go.Proofs.YtacbjbnocepnaaaGreatDoor
namespace Go.Proofs.YtacbjbnocepnaaaGreatDoor
open Go.RowKit Fm
end Go.Proofs.YtacbjbnocepnaaaGreatDoor
namespace Go.Proofs.YtacbjbnocepnaaaGreatDoor
open Go.RowKit Fm
end Go.Proofs.YtacbjbnocepnaaaGreatDoor
namespace Go.Proofs.YtacbjbnocepnaaaGreatDoor
open Go.RowKit Fm
def EvSt (w : World) (g : Nat) (q : Rat) (wr : World) : Prop :=
  ∃ (s : Int) (b : Bool) (A : Option Addr) (n c : Nat) (s2 : Int) (b2 : Bool) (A2 : Option Addr) (n2 c2 : Nat), CellR wr g s b (.slice A n c) s2 b2 (.slice A2 n2 c2) ∧ RQ wr (.agg #[.int .i64 s, .bool b, .slice A n c, .int .i64 s2, .bool b2, .slice A2 n2 c2]) q ∧ Up w wr
theorem evalQ_nil (x : Int) : evalQ [] x [] = (x : Rat) := rfl
theorem evalQ_next (zs : List Int) (qs : List Rat) (x : Int) (k : Nat) (h1 : k < zs.length) (h2 : k < qs.length) : evalQ (zs.take (k + 1)) x (qs.take (k + 1)) = evalQ (zs.take k) x (qs.take k) + (zs[k] : Rat) * qs[k] := by
  unfold evalQ
  rw [List.take_succ_eq_append_getElem h1, List.take_succ_eq_append_getElem h2, List.zipWith_append (by rw [List.length_take, List.length_take]; omega), List.foldl_append]
  rfl
set_option maxHeartbeats 6000000 in
set_option maxRecDepth 10000 in
theorem refEval_any (A A2 B : Option Addr) (c c2 n2 d : Nat) (s : Int) (b : Bool) (zs : List Int) (x : Int) (qs : List Rat) (w : World) (hzq : zs.length = qs.length) (hn : zs.length ≤ 1000000) (hr : RdE eltR w A zs) (hx : RI w (.agg #[.int .i64 s, .bool b, .slice A2 n2 c2]) x) (hs : RdE eltQ w B qs) (M : Nat) (hM : M ≤ 1000000) (hM3 : 3 ≤ M) (hbz : ∀ z, z ∈ zs → QB (z : Rat) M) (hbq : ∀ q, q ∈ qs → QB q M) (hbs : ∀ k, k ≤ zs.length → QB (evalQ (zs.take k) x (qs.take k)) (4 * M)) :
    Calls Tryz.prog 28 #[.agg #[.slice A zs.length c, .int .i64 s, .bool b, .slice A2 n2 c2], .slice B qs.length d] w fun e w' => ∃ v, e = .returned v ∧ RQ w' v (evalQ zs x qs) ∧ Up w w' := by
  have HZQ := Lib.hid hzq
  clear hzq
  go_enter Tryz.func28, Tryz.ntmps28
  go_wp2_with fail
  have HQ0 := Lib.hid ((CellQ.new w (.slice A zs.length c) (.slice A2 n2 c2) s b).up (Up.alloc _ (.cells #[.int .i64 0, .bool false, .slice none 0 0, .int .i64 0, .bool false, .slice none 0 0] 50)))
  have HR0 := Lib.hid (CellR.new (w.alloc (.cells #[.slice A zs.length c, .int .i64 s, .bool b, .slice A2 n2 c2] 59)) 0 false (.slice none 0 0) 0 false (.slice none 0 0))
  have HUW := Lib.hid ((Up.alloc w (.cells #[.slice A zs.length c, .int .i64 s, .bool b, .slice A2 n2 c2] 59)).trans (Up.alloc _ (.cells #[.int .i64 0, .bool false, .slice none 0 0, .int .i64 0, .bool false, .slice none 0 0] 50)))
  rw [size_alloc] at HR0
  generalize (w.alloc (.cells #[.slice A zs.length c, .int .i64 s, .bool b, .slice A2 n2 c2] 59)).alloc (.cells #[.int .i64 0, .bool false, .slice none 0 0, .int .i64 0, .bool false, .slice none 0 0] 50) = wB at *
  obtain ⟨g0, hg0⟩ : ∃ g0, g0 = w.heap.size := ⟨_, rfl⟩
  obtain ⟨g1, hg1⟩ : ∃ g1, g1 = w.heap.size + 1 := ⟨_, rfl⟩
  have HG1 := Lib.hid (show w.heap.size ≤ g1 by omega)
  rw [← hg0] at HQ0
  rw [← hg1] at HR0
  rw [← hg1, ← hg0]
  clear hg0 hg1
  have HX := Lib.hid (hx.up HUW.out)
  have HOF := Lib.hid (fun W => refOf_any 1 W (by omega) (by omega))
  obtain ⟨q0, q1, q2, q3, -, lq⟩ := HQ0.out.facts
  obtain ⟨nx1, nx2⟩ := And.intro (lt_ne lq) (lt_ne' lq)
  go_cut [5] (fun p5 wx => ∃ g5 s1 b1 A1 n1 c1 s2 b2 A2 n2 c2, p5 = .pointer (some ⟨g5, 0, none⟩) ∧ CellR wx g5 s1 b1 (.slice A1 n1 c1) s2 b2 (.slice A2 n2 c2) ∧ RQ wx (.agg #[.int .i64 s1, .bool b1, .slice A1 n1 c1, .int .i64 s2, .bool b2, .slice A2 n2 c2]) (x : Rat) ∧ Up wB wx ∧ wB.heap.size ≤ g5)
  case first =>
    go_region_held3 (fun w' => w'.cell? ⟨g0, 1, none⟩ = some (.int .i64 s) ∧ w'.cell? ⟨g0, 2, none⟩ = some (.bool b) ∧ w'.cell? ⟨g0, 3, none⟩ = some (.slice A2 n2 c2)) (go_keep)
      ((first
        | (go_at_call 69
           refine Calls.mono (HOF.out _) ?_
           rintro e w3 ⟨v3, rfl, hv, hu⟩
           try (have HZ : Go.RowKit.Hid (CellR w3 wB.heap.size 0 false (.slice none 0 0) 0 false (.slice none 0 0)) := CellR.up (CellR.new wB.drew 0 false (.slice none 0 0) 0 false (.slice none 0 0)) hu)
           try (obtain ⟨z0, z1, z2, z3, z4, z5, lz⟩ := HZ.out.facts)
           try (obtain ⟨y0, y1, y2, y3, y4, y5⟩ := HZ.out.frozen6)
           have HU3 := Lib.hid hu
           have HV3 := Lib.hid hv
           obtain ⟨s3, b3, A3, n3, c3, rfl, -⟩ := hv.open_
           have HRQ := Lib.hid (show RQ w3 (.agg #[.int .i64 s, .bool b, .slice A2 n2 c2, .int .i64 s3, .bool b3, .slice A3 n3 c3]) (x : Rat) from RI.whole (HX.out.up (by (repeat (first | exact Below.refl _ _ | exact Hid.out (by assumption) | refine Up.trans ?_ (Up.drew _) | refine Up.trans ?_ (Up.drewN _ _) | refine Up.trans ?_ (Up.alloc _ _) | refine Up.trans ?_ (Hid.out (by assumption)))))) hv)
           obtain ⟨q0, q1, q2, q3, -, lq⟩ := (HQ0.out.up (w' := w3) (by (repeat (first | exact Below.refl _ _ | exact Hid.out (by assumption) | refine Up.trans ?_ (Up.drew _) | refine Up.trans ?_ (Up.drewN _ _) | refine Up.trans ?_ (Up.alloc _ _) | refine Up.trans ?_ (Hid.out (by assumption)))))).facts
           obtain ⟨nx3, nx4⟩ := And.intro (lt_ne lq) (lt_ne' lq)
           clear hu hv)))
    all_goals (go_wp2_with fail; go_meet)
    all_goals first
      | exact ⟨_, _, _, _, _, _, _, _, _, _, _, rfl, HZ.out.set _ _ _ _ _ _, HRQ.out.put6 HZ.out _ _ _ _ _ _, Up.put6 (show Up wB w3 by (repeat (first | exact Below.refl _ _ | exact Hid.out (by assumption) | refine Up.trans ?_ (Up.drew _) | refine Up.trans ?_ (Up.drewN _ _) | refine Up.trans ?_ (Up.alloc _ _) | refine Up.trans ?_ (Hid.out (by assumption))))) (Nat.le_refl _) _ _ _ _ _ _, Nat.le_refl _⟩
      | exact ⟨_, _, _, _, _, _, _, _, _, _, _, rfl, CellR.new _ _ _ _ _ _ _, HRQ.out.up (Up.alloc _ _), by (repeat (first | exact Below.refl _ _ | exact Hid.out (by assumption) | refine Up.trans ?_ (Up.drew _) | refine Up.trans ?_ (Up.drewN _ _) | refine Up.trans ?_ (Up.alloc _ _) | refine Up.trans ?_ (Hid.out (by assumption)))), (show Up wB w3 by (repeat (first | exact Below.refl _ _ | exact Hid.out (by assumption) | refine Up.trans ?_ (Up.drew _) | refine Up.trans ?_ (Up.drewN _ _) | refine Up.trans ?_ (Up.alloc _ _) | refine Up.trans ?_ (Hid.out (by assumption))))).size⟩
  case rest =>
    obtain ⟨g5, s1, b1, A1, n1, c1, s2, b2, A5, n5, c5, rfl, hc5, hv5, hu5, hg5⟩ := hcut
    have HST : Hid (EvSt wB g5 (evalQ (zs.take 0) x (qs.take 0)) wc) := Lib.hid (by rw [List.take_zero, List.take_zero, evalQ_nil]; exact ⟨s1, b1, A1, n1, c1, s2, b2, A5, n5, c5, hc5, hv5, hu5⟩)
    have HG5 := Lib.hid hg5
    clear hc5 hv5 hu5 hg5 q0 q1 q2 q3 lq nx1 nx2
    have HRE := Lib.hid (hr.up HUW.out)
    have HSE := Lib.hid (hs.up HUW.out)
    clear hr hs hx
    obtain ⟨q0, q1, q2, q3, -, lq⟩ := (HQ0.out.up (w' := wc) (by obtain ⟨_, _, _, _, _, _, _, _, _, _, _, _, h⟩ := HST.out; exact h)).facts
    go_wp2_with fail
    clear q0 q1 q2 q3 lq
    go_loopw [15] (fun i wr => ∃ k : Nat, k ≤ zs.length ∧ i = .int .i64 k ∧ Hid (EvSt wB g5 (evalQ (zs.take k) x (qs.take k)) wr)) (fun i _ => zs.length - (intOf i).toNat)
    case atStart => exact ⟨0, by omega, rfl, HST⟩
    case round =>
      obtain ⟨k, hk, rfl, HS⟩ := hrel
      obtain ⟨t5, d5, D5, m5, j5, t6, d6, D6, m6, j6, hcr, hq, hup⟩ := HS.out
      have HCR := Lib.hid hcr
      have HQ := Lib.hid hq
      have HUP := Lib.hid hup
      clear hcr hq hup HS
      by_cases hkl : k < zs.length
      · have hkq : k < qs.length := by rw [← HZQ.out]; exact hkl
        obtain ⟨b, off, cs, rfl, hbb, ⟨t1, d1, D1, m1, j1, rfl, hz⟩, hcell⟩ := (HRE.out.up HUP.out).at_ hkl
        obtain ⟨b2, off2, cs2, rfl, hbb2, hqq, hcell2⟩ := (HSE.out.up HUP.out).at_ hkq
        obtain ⟨e1, f1, F1, y1, x1, e2, f2, F2, y2, x2, rfl, -, -⟩ := id hqq
        have HRQ := Lib.hid (eltQ_rq hqq)
        have HRI := Lib.hid hz.ri
        have c0 := hcell 0 _ rfl
        have c1 := hcell 1 _ rfl
        have c2 := hcell 2 _ rfl
        have HC2 := Lib.hid hcell2
        have HBB2 := Lib.hid hbb2
        have HNEXT : Hid (evalQ (zs.take (k + 1)) x (qs.take (k + 1)) = evalQ (zs.take k) x (qs.take k) + (zs[k] : Rat) * qs[k]) := Lib.hid (evalQ_next zs qs x k hkl hkq)
        have HB1 := Lib.hid (And.intro (hbz _ (List.getElem_mem hkl)) (And.intro (hbq _ (List.getElem_mem hkq)) (hbs k (by omega))))
        have HD := Lib.hid (fun W (hu : Up wr W) => And.intro ((hu.cells.1 _ _ hbb2).trans (hcell2 0 _ rfl)) (And.intro ((hu.cells.1 _ _ hbb2).trans (hcell2 1 _ rfl)) (And.intro ((hu.cells.1 _ _ hbb2).trans (hcell2 2 _ rfl)) (And.intro ((hu.cells.1 _ _ hbb2).trans (hcell2 3 _ rfl)) (And.intro ((hu.cells.1 _ _ hbb2).trans (hcell2 4 _ rfl)) ((hu.cells.1 _ _ hbb2).trans (hcell2 5 _ rfl)))))))
        simp only [eltQ, Nat.add_zero] at HD
        clear hcell hcell2 hqq hz hbb2
        generalize zs[k] = z at *
        generalize qs[k] = q at *
        simp only [eltR, Nat.add_zero] at c0 c1 c2
        have HSG := Lib.hid (fun W (hu : Up wr W) => refSign_any _ z W (HRI.out.up hu))
        go_wp2_with fail
        have HCI := Lib.hid (CellI.new wr t1 d1 (.slice D1 m1 j1))
        have HUC := Lib.hid (Up.alloc wr (.cells #[.int .i64 t1, .bool d1, .slice D1 m1 j1] 48))
        obtain ⟨wC, hwC⟩ : ∃ wC, wC = wr.alloc (.cells #[.int .i64 t1, .bool d1, .slice D1 m1 j1] 48) := ⟨_, rfl⟩
        obtain ⟨g7, hg7⟩ : ∃ g7, g7 = wr.heap.size := ⟨_, rfl⟩
        rw [← hwC] at HCI HUC ⊢
        rw [← hg7] at HCI ⊢
        have HG7 := Lib.hid (show g5 < g7 by have := HCR.out.lt; omega)
        clear hwC hg7 c0 c1 c2 hbb
        refine Calls.mono (HSG.out _ (by (repeat (first | exact Below.refl _ _ | exact Hid.out (by assumption) | refine Up.trans ?_ (Up.drew _) | refine Up.trans ?_ (Up.drewN _ _) | refine Up.trans ?_ (Up.alloc _ _) | refine Up.trans ?_ (Hid.out (by assumption)))))) ?_
        rintro e w2 ⟨rfl, hu⟩
        have HU2 := Lib.hid hu
        clear hu
        by_cases hz0 : z = 0
        · subst hz0
          have HN2 : Hid (evalQ (zs.take (k + 1)) x (qs.take (k + 1)) = evalQ (zs.take k) x (qs.take k)) := Lib.hid (by rw [HNEXT.out, Rat.intCast_zero, Rat.zero_mul, Rat.add_zero])
          go_wp2
          exact ⟨⟨k + 1, hkl, by simp, Lib.hid (by rw [HN2.out]; exact ⟨_, _, _, _, _, _, _, _, _, _, HCR.out.up (by (repeat (first | exact Below.refl _ _ | exact Hid.out (by assumption) | refine Up.trans ?_ (Up.drew _) | refine Up.trans ?_ (Up.drewN _ _) | refine Up.trans ?_ (Up.alloc _ _) | refine Up.trans ?_ (Hid.out (by assumption))))), HQ.out.up (by (repeat (first | exact Below.refl _ _ | exact Hid.out (by assumption) | refine Up.trans ?_ (Up.drew _) | refine Up.trans ?_ (Up.drewN _ _) | refine Up.trans ?_ (Up.alloc _ _) | refine Up.trans ?_ (Hid.out (by assumption))))), by (repeat (first | exact Below.refl _ _ | exact Hid.out (by assumption) | refine Up.trans ?_ (Up.drew _) | refine Up.trans ?_ (Up.drewN _ _) | refine Up.trans ?_ (Up.alloc _ _) | refine Up.trans ?_ (Hid.out (by assumption))))⟩)⟩, by simp [intOf]; omega⟩
        · have hs0 : z.sign ≠ 0 := by rw [Ne, Int.sign_eq_zero_iff_zero]; exact hz0
          have HOF := Lib.hid (fun W => refOf_any 1 W (by omega) (by omega))
          have HTM := Lib.hid (fun W u1 u2 (h1 : RQ W u1 (z : Rat)) (h2 : RQ W u2 q) => refRatTimes_q u1 u2 _ _ M M W h1 h2 HB1.out.1 HB1.out.2.1 (by omega))
          have HPL := Lib.hid (fun W u1 u2 (h1 : RQ W u1 (evalQ (zs.take k) x (qs.take k))) (h2 : RQ W u2 ((z : Rat) * q)) => refRatPlus_q u1 u2 _ _ (4 * M) (2 * M) W h1 h2 HB1.out.2.2 (HB1.out.1.mul HB1.out.2.1 (by omega)) (by omega))
          rw [← HNEXT.out] at HPL
          clear HNEXT
          generalize hqe : evalQ (zs.take (k + 1)) x (qs.take (k + 1)) = q' at *
          have HQE := Lib.hid hqe
          clear hqe
          generalize evalQ (zs.take k) x (qs.take k) = q0 at *
          generalize (z : Rat) * q = qp at *
          generalize z.sign = sg at *
          obtain ⟨a0, a1, a2, a3, a4, a5, la⟩ := (HCR.out.up (w' := w2) (by (repeat (first | exact Below.refl _ _ | exact Hid.out (by assumption) | refine Up.trans ?_ (Up.drew _) | refine Up.trans ?_ (Up.drewN _ _) | refine Up.trans ?_ (Up.alloc _ _) | refine Up.trans ?_ (Hid.out (by assumption)))))).facts
          obtain ⟨v0, v1, v2, lv⟩ := (HCI.out.up (w' := w2) (by (repeat (first | exact Below.refl _ _ | exact Hid.out (by assumption) | refine Up.trans ?_ (Up.drew _) | refine Up.trans ?_ (Up.drewN _ _) | refine Up.trans ?_ (Up.alloc _ _) | refine Up.trans ?_ (Hid.out (by assumption)))))).facts
          obtain ⟨h0, h1, h2, h3, h4, h5⟩ := HD.out w2 (by (repeat (first | exact Below.refl _ _ | exact Hid.out (by assumption) | refine Up.trans ?_ (Up.drew _) | refine Up.trans ?_ (Up.drewN _ _) | refine Up.trans ?_ (Up.alloc _ _) | refine Up.trans ?_ (Hid.out (by assumption)))))
          have i0 : (0 : Int) ≤ (k : Int) := by omega
          have i1 : (k : Int) < (qs.length : Int) := by omega
          go_upto_region 6 with fail
          clear HRE HSE HST HR0 HQ0 HX HBB2 HC2 HB1 hbz hbq hbs hM hM3 HG1 HZQ HUW hs0 hz0 HSG hkq
          go_region_with
            ((first
              | (go_at_call 25
                 refine Calls.mono (HPL.out _ _ _ (HQ.out.up (by (repeat (first | exact Below.refl _ _ | exact Hid.out (by assumption) | refine Up.trans ?_ (Up.drew _) | refine Up.trans ?_ (Up.drewN _ _) | refine Up.trans ?_ (Up.alloc _ _) | refine Up.trans ?_ (Hid.out (by assumption)))))) (HVw7.out.up (by (repeat (first | exact Below.refl _ _ | exact Hid.out (by assumption) | refine Up.trans ?_ (Up.drew _) | refine Up.trans ?_ (Up.drewN _ _) | refine Up.trans ?_ (Up.alloc _ _) | refine Up.trans ?_ (Hid.out (by assumption))))))) ?_
                 rintro e w8 ⟨v, rfl, hv, hu⟩
                 have HUw8 := Lib.hid hu
                 have HVw8 := Lib.hid hv
                 obtain ⟨p1, p2, p3, p4, p5, p6, p7, p8, p9, p0, rfl, -⟩ := hv
                 clear hu
                 clear a0 a1 a2 a3 a4 a5 la v0 v1 v2 lv h0 h1 h2 h3 h4 h5
                 have HZ := Lib.hid (HCR.out.up (w' := w8) (by (repeat (first | exact Below.refl _ _ | exact Hid.out (by assumption) | refine Up.trans ?_ (Up.drew _) | refine Up.trans ?_ (Up.drewN _ _) | refine Up.trans ?_ (Up.alloc _ _) | refine Up.trans ?_ (Hid.out (by assumption))))))
                 obtain ⟨a0, a1, a2, a3, a4, a5, la⟩ := HZ.out.facts
                 obtain ⟨f0, f1, f2, f3, f4, f5⟩ := HZ.out.frozen6)
              | (go_at_call 27
                 refine Calls.mono (HTM.out _ _ _ (RI.whole (HRI.out.up (by (repeat (first | exact Below.refl _ _ | exact Hid.out (by assumption) | refine Up.trans ?_ (Up.drew _) | refine Up.trans ?_ (Up.drewN _ _) | refine Up.trans ?_ (Up.alloc _ _) | refine Up.trans ?_ (Hid.out (by assumption)))))) (HVw6.out.up (by (repeat (first | exact Below.refl _ _ | exact Hid.out (by assumption) | refine Up.trans ?_ (Up.drew _) | refine Up.trans ?_ (Up.drewN _ _) | refine Up.trans ?_ (Up.alloc _ _) | refine Up.trans ?_ (Hid.out (by assumption))))))) (HRQ.out.up (by (repeat (first | exact Below.refl _ _ | exact Hid.out (by assumption) | refine Up.trans ?_ (Up.drew _) | refine Up.trans ?_ (Up.drewN _ _) | refine Up.trans ?_ (Up.alloc _ _) | refine Up.trans ?_ (Hid.out (by assumption))))))) ?_
                 rintro e w7 ⟨v, rfl, hv, hu⟩
                 have HUw7 := Lib.hid hu
                 have HVw7 := Lib.hid hv
                 clear hu hv
                 clear a0 a1 a2 a3 a4 a5 la v0 v1 v2 lv h0 h1 h2 h3 h4 h5
                 obtain ⟨v0, v1, v2, lv⟩ := (HCI.out.up (w' := w7) (by (repeat (first | exact Below.refl _ _ | exact Hid.out (by assumption) | refine Up.trans ?_ (Up.drew _) | refine Up.trans ?_ (Up.drewN _ _) | refine Up.trans ?_ (Up.alloc _ _) | refine Up.trans ?_ (Hid.out (by assumption)))))).facts
                 obtain ⟨h0, h1, h2, h3, h4, h5⟩ := HD.out w7 (by (repeat (first | exact Below.refl _ _ | exact Hid.out (by assumption) | refine Up.trans ?_ (Up.drew _) | refine Up.trans ?_ (Up.drewN _ _) | refine Up.trans ?_ (Up.alloc _ _) | refine Up.trans ?_ (Hid.out (by assumption)))))
                 obtain ⟨a0, a1, a2, a3, a4, a5, la⟩ := (HCR.out.up (w' := w7) (by (repeat (first | exact Below.refl _ _ | exact Hid.out (by assumption) | refine Up.trans ?_ (Up.drew _) | refine Up.trans ?_ (Up.drewN _ _) | refine Up.trans ?_ (Up.alloc _ _) | refine Up.trans ?_ (Hid.out (by assumption)))))).facts)
              | (go_at_call 69
                 refine Calls.mono (HOF.out _) ?_
                 rintro e w6 ⟨v, rfl, hv, hu⟩
                 have HUw6 := Lib.hid hu
                 have HVw6 := Lib.hid hv
                 obtain ⟨s9, b9, A9, n9, c9, rfl, -⟩ := hv.open_
                 clear hu hv
                 clear a0 a1 a2 a3 a4 a5 la v0 v1 v2 lv h0 h1 h2 h3 h4 h5
                 obtain ⟨v0, v1, v2, lv⟩ := (HCI.out.up (w' := w6) (by (repeat (first | exact Below.refl _ _ | exact Hid.out (by assumption) | refine Up.trans ?_ (Up.drew _) | refine Up.trans ?_ (Up.drewN _ _) | refine Up.trans ?_ (Up.alloc _ _) | refine Up.trans ?_ (Hid.out (by assumption)))))).facts
                 obtain ⟨h0, h1, h2, h3, h4, h5⟩ := HD.out w6 (by (repeat (first | exact Below.refl _ _ | exact Hid.out (by assumption) | refine Up.trans ?_ (Up.drew _) | refine Up.trans ?_ (Up.drewN _ _) | refine Up.trans ?_ (Up.alloc _ _) | refine Up.trans ?_ (Hid.out (by assumption)))))
                 obtain ⟨a0, a1, a2, a3, a4, a5, la⟩ := (HCR.out.up (w' := w6) (by (repeat (first | exact Below.refl _ _ | exact Hid.out (by assumption) | refine Up.trans ?_ (Up.drew _) | refine Up.trans ?_ (Up.drewN _ _) | refine Up.trans ?_ (Up.alloc _ _) | refine Up.trans ?_ (Hid.out (by assumption)))))).facts)))
          all_goals
            have HSN : Hid (EvSt wB g5 q' (put6 w8 g5 (.int .i64 p1) (.bool p3) (.slice p5 p7 p8) (.int .i64 p2) (.bool p4) (.slice p6 p9 p0))) := Lib.hid ⟨_, _, _, _, _, _, _, _, _, _, HZ.out.set _ _ _ _ _ _, HVw8.out.put6 HZ.out _ _ _ _ _ _, Up.put6 (show Up wB w8 by (repeat (first | exact Below.refl _ _ | exact Hid.out (by assumption) | refine Up.trans ?_ (Up.drew _) | refine Up.trans ?_ (Up.drewN _ _) | refine Up.trans ?_ (Up.alloc _ _) | refine Up.trans ?_ (Hid.out (by assumption))))) HG5.out _ _ _ _ _ _⟩
            clear HVw8 HVw7 HVw6
            go_wp2
            exact ⟨⟨k + 1, hkl, by simp, by rw [HQE.out]; exact HSN⟩, by simp [intOf]; omega⟩
      · have hke : k = zs.length := by omega
        subst hke
        rw [List.take_of_length_le (Nat.le_refl _), List.take_of_length_le (by rw [HZQ.out]; exact Nat.le_refl _)] at HQ
        obtain ⟨a0, a1, a2, a3, a4, a5, la⟩ := HCR.out.facts
        have HR8 := Lib.hid (HR0.out.up HUP.out)
        obtain ⟨r0, r1, r2, r3, r4, r5, lr⟩ := HR8.out.facts
        obtain ⟨f0, f1, f2, f3, f4, f5⟩ := HR8.out.frozen6
        have HFF := Lib.hid ((HR8.out.set t5 d5 (.slice D5 m5 j5) t6 d6 (.slice D6 m6 j6)).facts)
        have HQF := Lib.hid (HQ.out.put6 HR8.out (.int .i64 t5) (.bool d5) (.slice D5 m5 j5) (.int .i64 t6) (.bool d6) (.slice D6 m6 j6))
        have HUF := Lib.hid (Up.put6 (HUW.out.trans HUP.out) HG1.out (.int .i64 t5) (.bool d5) (.slice D5 m5 j5) (.int .i64 t6) (.bool d6) (.slice D6 m6 j6))
        go_wp2
        obtain ⟨z0, z1, z2, z3, z4, z5, -⟩ := HFF.out
        simp only [put6] at z0 z1 z2 z3 z4 z5
        refine bodyPost_ret (by simp [results, Tryz.results28, go_sem, z0, z1, z2, z3, z4, z5]; try rfl) rfl ?_
        exact ⟨_, rfl, HQF.out, HUF.out⟩
end Go.Proofs.YtacbjbnocepnaaaGreatDoor
namespace Go.Proofs.YtacbjbnocepnaaaGreatDoor
open Go.RowKit Fm
theorem validP_len2 {n : Int} {xs : List (Int × Int)} (h : validP n xs = true) : (xs.length : Int) = n := by
  simp only [validP, Bool.and_eq_true, decide_eq_true_eq] at h
  exact h.1.2
theorem valQ_QB {f : List Int × Int} {xs : List (Int × Int)} (h : f.1.length = xs.length) (hn : f.1.length ≤ 8) (hz : f.1.all limI = true) (hx : limI f.2 = true) (ho : okAll xs = true) : QB (valQ f xs) 80 := by
  have h1 := evalQ_QB f.1 f.2 xs h hn hz hx ho f.1.length (Nat.le_refl _)
  rw [List.take_length, List.take_of_length_le (by unfold ratsOf; rw [List.length_map]; omega), evalQ_val f xs h] at h1
  exact h1
theorem refEval_row (f : List Int × Int) (xs : List (Int × Int)) (n : Nat) (hn : n ≤ 8) (hfl : f.1.length = n) (hxl : xs.length = n) (hl1 : f.1.all limI = true) (hl2 : limI f.2 = true) (hok : okAll xs = true) (W0 W1 W : World) (v : Value) (A1 : Option Addr) (c1 : Nat) (hu : Up W1 W) (hrow : RowQ W0 W1 v f.1 f.2) (hq : RdE eltQ W A1 (ratsOf xs)) :
    Calls Tryz.prog 28 #[v, .slice A1 (ratsOf xs).length c1] W fun e w' => ∃ v, e = .returned v ∧ RQ w' v (valQ f xs) ∧ Up W w' := by
  have hlen : f.1.length = (ratsOf xs).length := by unfold ratsOf; rw [List.length_map, hfl, hxl]
  obtain ⟨A2, c2, s, b, A3, n3, c3, rfl, -, -, h1, h2, -⟩ := hrow
  rw [← evalQ_val f xs (by rw [hfl, hxl])]
  refine refEval_any A2 A3 A1 c2 c3 n3 c1 s b f.1 f.2 (ratsOf xs) W hlen (by omega) (h1.up hu) (h2.up hu) hq 20 (by omega) (by omega) (fun z hz => ?_) (fun q hq => ?_) (fun k hk => ?_)
  · rw [List.all_eq_true] at hl1
    have := hl1 z hz
    simp only [limI, decide_eq_true_eq] at this
    exact (int_QB (by omega) (by omega)).mono (by omega)
  · unfold ratsOf at hq
    obtain ⟨p, hp1, rfl⟩ := List.mem_map.1 hq
    unfold okAll at hok
    rw [List.all_eq_true] at hok
    exact (ok_QB (hok p hp1)).mono (by omega)
  · exact evalQ_QB f.1 f.2 xs (by rw [hfl, hxl]) (by omega) hl1 hl2 hok k hk
end Go.Proofs.YtacbjbnocepnaaaGreatDoor

/- Contracts of lists of numbers: their validity, their equality; plain facts about sums of products. -/
import Derived.Test.YtgcmogldiahdpaaGreatDoorQGQ
import Derived.Test.YtgcmogldiahdpaaGreatDoorQGH
import Derived.Test.YtgcmogldiahdpaaGreatDoorQGR
namespace Go.Proofs.YtgcmogldiahdpaaGreatDoor
open Go.RowKit Fm

set_option maxHeartbeats 1000000 in
set_option maxRecDepth 10000 in
theorem numAllValid_any (A : Option Addr) (c : Nat) (xs : List (Int × Int)) (w : World) (hc : xs.length ≤ c) (hcm : c ≤ maxLen) (hr : RdN w A xs) (hx : ∀ p, p ∈ xs → Rng p.1 p.2) (ht : Tab w) :
    Calls Tryz.prog 139 #[.slice A xs.length c] w fun e w' => e = .returned (.bool (okAll xs)) ∧ Up w w' := by
  have hlen := len_le hc hcm
  clear hcm hc
  go_enter Tryz.func139, Tryz.ntmps139
  go_wp2
  go_loopw [7] (fun i wr => ∃ k : Nat, k ≤ xs.length ∧ i = .int .i64 k ∧ Hid (okAll (xs.take k) = true) ∧ Up w wr) (fun i _ => xs.length - (intOf i).toNat)
  case atStart => exact ⟨0, by omega, rfl, rfl, Up.refl _⟩
  case round =>
    obtain ⟨k, hk, rfl, HK, hup⟩ := hrel
    have HU := Lib.hid hup
    have hrA := hr.up hup
    clear hup
    by_cases hkl : k < xs.length
    · obtain ⟨b, off, rfl, hbb, hcell⟩ := hrA.at_ hkl
      have hR := hx xs[k] (List.getElem_mem hkl)
      obtain ⟨x, hxx⟩ : ∃ x, x = xs[k].1 := ⟨_, rfl⟩
      obtain ⟨y, hyy⟩ : ∃ y, y = xs[k].2 := ⟨_, rfl⟩
      rw [← hxx, ← hyy] at hcell hR
      obtain ⟨c0, c1⟩ := hcell
      have HV := Lib.hid (fun W (hu : Up w W) => valid_any x y W hR.1 hR.2.1 hR.2.2.1 hR.2.2.2 (ht.up hu))
      have HNEXT : Hid (okAll (xs.take (k + 1)) = okNum x y) := by
        unfold Hid
        rw [hxx, hyy]
        have := HK.out
        unfold okAll at this ⊢
        rw [List.take_succ_eq_append_getElem hkl, List.all_append, this]
        simp
      have HFALSE : Hid (okNum x y = false → okAll xs = false) := Lib.hid (fun h => by
        rw [hxx, hyy] at h
        unfold okAll
        rw [List.all_eq_false]
        exact ⟨xs[k], List.getElem_mem hkl, by simp [h]⟩)
      clear hxx hyy hR hrA HK
      go_wp2_with fail
      have HUA := Lib.hid (Up.alloc wr (.cells #[.int .i64 x, .int .i64 y] 23))
      refine Calls.mono (HV.out _ (by (repeat (first | exact Below.refl _ _ | exact Go.RowKit.Hid.out (by assumption) | refine Up.trans ?_ (Up.drew _) | refine Up.trans ?_ (Up.drewN _ _) | refine Up.trans ?_ (Up.alloc _ _) | refine Up.trans ?_ (Go.RowKit.Hid.out (by assumption)))))) ?_
      rintro e w1 ⟨rfl, hu1⟩
      have HU1 := Lib.hid hu1
      clear hu1 c0 c1 hbb hr
      rcases hv : okNum x y with _ | _
      · have HA := Lib.hid (HFALSE.out hv)
        clear HNEXT HFALSE hv
        go_wp2
        go_ret
        exact ⟨by rw [HA.out]; rfl, by (repeat (first | exact Below.refl _ _ | exact Go.RowKit.Hid.out (by assumption) | refine Up.trans ?_ (Up.drew _) | refine Up.trans ?_ (Up.drewN _ _) | refine Up.trans ?_ (Up.alloc _ _) | refine Up.trans ?_ (Go.RowKit.Hid.out (by assumption))))⟩
      · rw [hv] at HNEXT
        clear HFALSE hv
        go_wp2_with fail
        go_roundw
        case rel => exact ⟨k + 1, hkl, by simp, HNEXT, by (repeat (first | exact Below.refl _ _ | exact Go.RowKit.Hid.out (by assumption) | refine Up.trans ?_ (Up.drew _) | refine Up.trans ?_ (Up.drewN _ _) | refine Up.trans ?_ (Up.alloc _ _) | refine Up.trans ?_ (Go.RowKit.Hid.out (by assumption))))⟩
        case measure => simp [intOf]; omega
    · have HE : Hid (okAll xs = true) := by
        have := HK.out
        rw [List.take_of_length_le (by omega)] at this
        exact this
      clear HK
      go_wp2
      go_ret
      exact ⟨by rw [HE.out]; rfl, HU.out⟩
set_option maxHeartbeats 1000000 in
set_option maxRecDepth 10000 in
theorem refSame_any (A B : Option Addr) (c d : Nat) (xs : List (Int × Int)) (w : World) (hc : xs.length ≤ c) (hcm : c ≤ maxLen) (hr : RdN w A xs) (hs : RdN w B xs) :
    Calls Tryz.prog 36 #[.slice A xs.length c, .slice B xs.length d] w fun e w' => e = .returned (.bool true) ∧ Up w w' := by
  have hlen := len_le hc hcm
  clear hcm hc
  go_enter Tryz.func36, Tryz.ntmps36
  go_wp2
  go_loopw [13] (fun i wr => ∃ k : Nat, k ≤ xs.length ∧ i = .int .i64 k ∧ Up w wr) (fun i _ => xs.length - (intOf i).toNat)
  case atStart => exact ⟨0, by omega, rfl, Up.refl _⟩
  case round =>
    obtain ⟨k, hk, rfl, hup⟩ := hrel
    have HU := Lib.hid hup
    have hrA := hr.up hup
    have hrB := hs.up hup
    clear hup
    by_cases hkl : k < xs.length
    · obtain ⟨b, off, rfl, hbb, hcell⟩ := hrA.at_ hkl
      obtain ⟨b2, off2, rfl, hbb2, hcell2⟩ := hrB.at_ hkl
      obtain ⟨x, hxx⟩ : ∃ x, x = xs[k].1 := ⟨_, rfl⟩
      obtain ⟨y, hyy⟩ : ∃ y, y = xs[k].2 := ⟨_, rfl⟩
      rw [← hxx, ← hyy] at hcell hcell2
      obtain ⟨c0, c1⟩ := hcell
      obtain ⟨d0, d1⟩ := hcell2
      clear hxx hyy hrA hrB hr hs
      go_upto_region 6 with fail
      go_region
      go_wp2
      exact ⟨⟨k + 1, hkl, by simp, HU.out.trans (Up.drew _)⟩, by simp [intOf]; omega⟩
    · go_wp2
      go_ret
      exact ⟨rfl, HU.out⟩
end Go.Proofs.YtgcmogldiahdpaaGreatDoor
namespace Go.Proofs.YtgcmogldiahdpaaGreatDoor
open Go.RowKit Fm

theorem FB.divInt {a b : Int} {n : Nat} (ha : bl a ≤ n) (hb : bl b ≤ n) (h0 : b ≠ 0) : FB (ratOf a b) n := by
  unfold ratOf
  rcases Int.lt_or_gt_of_ne h0 with h | h
  · have := new_neg (top := a) h
    exact ⟨by rw [← this.1]; exact bl_tdiv ha, by rw [← this.2]; exact bl_tdiv hb⟩
  · have := new_pos (top := a) h
    exact ⟨by rw [← this.1]; exact bl_tdiv ha, by rw [← this.2]; exact bl_tdiv hb⟩
theorem FB.add {a b : Rat} {n m k : Nat} (ha : FB a n) (hb : FB b m) (hk : n + m + 1 ≤ k) : FB (a + b) k := by
  rw [← rat_add]
  exact FB.divInt (bl_add (k := n + m) (bl_mul ha.top hb.low (Nat.le_refl _)) (bl_mul hb.top ha.low (by omega)) hk) (bl_mul ha.low hb.low (by omega)) (Int.mul_ne_zero (den_ne a) (den_ne b))
theorem FB.mul {a b : Rat} {n m k : Nat} (ha : FB a n) (hb : FB b m) (hk : n + m ≤ k) : FB (a * b) k := by
  rw [rat_mul]
  exact FB.divInt (bl_mul ha.top hb.top hk) (bl_mul ha.low hb.low hk) (Int.mul_ne_zero (den_ne a) (den_ne b))
theorem ok_FB2 {x y : Int} (h : okNum x y = true) : FB (ratOf x y) 2 := by
  obtain ⟨h1, h2⟩ := ratOf_ok h
  have := ok_bounds h
  exact ⟨by rw [h1]; exact bl_small (by omega), by rw [h2]; exact bl_small (by omega)⟩

theorem FB.zero : FB 0 1 := ⟨digs_length_le (B := 4294967296) (k := 1) (by omega) (by decide), digs_length_le (B := 4294967296) (k := 1) (by omega) (by decide)⟩
theorem QB.zero : QB 0 1 := ⟨digs_length_le (B := 1073741824) (k := 1) (by omega) (by decide), digs_length_le (B := 1073741824) (k := 1) (by omega) (by decide)⟩
/-- The sum of the products of two lists of pairs. -/
def dotQ : List (Int × Int) → List (Int × Int) → Rat
  | p :: ps, q :: qs => ratOf p.1 p.2 * ratOf q.1 q.2 + dotQ ps qs
  | _, _ => 0
theorem dotQ_append (l m l' m' : List (Int × Int)) (h : l.length = m.length) : dotQ (l ++ l') (m ++ m') = dotQ l m + dotQ l' m' := by
  induction l generalizing m with
  | nil =>
    cases m with
    | nil => simp [dotQ, Rat.zero_add]
    | cons q qs => simp at h
  | cons p ps ih =>
    cases m with
    | nil => simp at h
    | cons q qs =>
      simp only [List.length_cons, Nat.add_right_cancel_iff] at h
      simp only [List.cons_append, dotQ, ih qs h, Rat.add_assoc]
theorem dotQ_split (l m : List (Int × Int)) (k : Nat) (h : l.length = m.length) : dotQ (l.take k) (m.take k) + dotQ (l.drop k) (m.drop k) = dotQ l m := by
  rw [← dotQ_append _ _ _ _ (by rw [List.length_take, List.length_take, h]), List.take_append_drop, List.take_append_drop]
theorem okAll_take {l : List (Int × Int)} (k : Nat) (h : okAll l = true) : okAll (l.take k) = true := by
  unfold okAll at *
  rw [List.all_eq_true] at *
  exact fun p hp => h p (List.mem_of_mem_take hp)
theorem okAll_drop {l : List (Int × Int)} (k : Nat) (h : okAll l = true) : okAll (l.drop k) = true := by
  unfold okAll at *
  rw [List.all_eq_true] at *
  exact fun p hp => h p (List.mem_of_mem_drop hp)
theorem okAll_get {l : List (Int × Int)} (h : okAll l = true) {k : Nat} (hk : k < l.length) : okNum l[k].1 l[k].2 = true := by
  unfold okAll at h
  rw [List.all_eq_true] at h
  exact h _ (List.getElem_mem hk)
theorem dotQ_FB (l m : List (Int × Int)) (h : l.length = m.length) (hl : okAll l = true) (hm : okAll m = true) : FB (dotQ l m) (8 * l.length + 1) := by
  induction l generalizing m with
  | nil =>
    cases m with
    | nil => exact FB.zero.mono (by omega)
    | cons q qs => simp at h
  | cons p ps ih =>
    cases m with
    | nil => simp at h
    | cons q qs =>
      have h1 := okAll_get hl (k := 0) (by simp)
      have h2 := okAll_get hm (k := 0) (by simp)
      simp only [List.length_cons, Nat.add_right_cancel_iff] at h
      have := ih qs h (okAll_drop 1 hl) (okAll_drop 1 hm)
      exact ((ok_FB2 h1).mul (ok_FB2 h2) (Nat.le_refl _)).add this (by simp only [List.length_cons]; omega)
theorem RdN.take {w : World} {A : Option Addr} {xs : List (Int × Int)} (h : RdN w A xs) (n : Nat) : RdN w A (xs.take n) := fun hn => by
  obtain ⟨b, off, hA, hb, hc⟩ := h (by intro e; subst e; simp at hn)
  exact ⟨b, off, hA, hb, fun i hi => by
    rw [List.length_take] at hi
    rw [List.getElem_take]
    exact hc i (by omega)⟩
theorem RdN.drop {w : World} {b off : Nat} {xs : List (Int × Int)} (h : RdN w (some ⟨b, off, none⟩) xs) (n : Nat) : RdN w (some ⟨b, off + n * 2, none⟩) (xs.drop n) := fun hn => by
  obtain ⟨b', off', hA, hb, hc⟩ := h (by intro e; subst e; simp at hn)
  cases hA
  exact ⟨b, _, rfl, hb, fun i hi => by
    rw [List.length_drop] at hi
    rw [List.getElem_drop]
    have := hc (n + i) (by omega)
    rw [Nat.add_mul, ← Nat.add_assoc] at this
    exact this⟩
end Go.Proofs.YtgcmogldiahdpaaGreatDoor

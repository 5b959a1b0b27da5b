/- What a further law needs. -/
import Derived.Test.YtacbjbnocepnaaaGreatDoorQHC
import Derived.Test.YtacbjbnocepnaaaGreatDoorQGG
import Derived.Test.YtacbjbnocepnaaaGreatDoorQHE
import Derived.Test.YtacbjbnocepnaaaGreatDoorQHF
import Derived.Test.YtacbjbnocepnaaaGreatDoorQHV
namespace Go.Proofs.YtacbjbnocepnaaaGreatDoor
open Go.RowKit Fm
end Go.Proofs.YtacbjbnocepnaaaGreatDoor
namespace Go.Proofs.YtacbjbnocepnaaaGreatDoor
open Go.RowKit Fm
end Go.Proofs.YtacbjbnocepnaaaGreatDoor
namespace Go.Proofs.YtacbjbnocepnaaaGreatDoor
open Go.RowKit Fm
theorem eq_iff_digits {s s2 a b : Int} {m m2 : Nat} (h1 : (m = 0 ∧ s = a) ∨ (4611686018427387904 ≤ m ∧ m = a.natAbs ∧ s = a.sign)) (h2 : (m2 = 0 ∧ s2 = b) ∨ (4611686018427387904 ≤ m2 ∧ m2 = b.natAbs ∧ s2 = b.sign)) : a = b ↔ (s = s2 ∧ m = m2) ∨ (a = b ∧ (m = 0 ∧ m2 ≠ 0 ∨ m ≠ 0 ∧ m2 = 0)) := by
  rcases h1 with ⟨h1, h3⟩ | ⟨h1, h3, h5⟩ <;> rcases h2 with ⟨h2, h4⟩ | ⟨h2, h4, h6⟩
  · omega
  · omega
  · omega
  · constructor
    · rintro rfl; left; exact ⟨by rw [h5, h6], by omega⟩
    · rintro (⟨h7, h8⟩ | h7)
      · have : a.natAbs = b.natAbs := by omega
        rw [← Int.sign_mul_natAbs a, ← Int.sign_mul_natAbs b, ← h5, ← h6, h7, this]
      · exact h7.1
theorem eq_iff_digits' {s s2 a b : Int} {m m2 : Nat} (h1 : (m = 0 ∧ s = a) ∨ (4611686018427387904 ≤ m ∧ m = a.natAbs ∧ s = a.sign)) (h2 : (m2 = 0 ∧ s2 = b) ∨ (4611686018427387904 ≤ m2 ∧ m2 = b.natAbs ∧ s2 = b.sign)) (ha : m = 0 → a.natAbs < 4611686018427387904) (hb : m2 = 0 → b.natAbs < 4611686018427387904) : a = b ↔ s = s2 ∧ ((m : Int) - m2).sign = 0 := by
  rw [eq_iff_digits h1 h2, Int.sign_eq_zero_iff_zero]
  constructor
  · rintro (⟨h, h'⟩ | ⟨h, h' | h'⟩)
    · exact ⟨h, by omega⟩
    · have := ha h'.1; rw [h] at this; rcases h2 with h2 | h2 <;> omega
    · have := hb h'.2; rw [← h] at this; rcases h1 with h1 | h1 <;> omega
  · rintro ⟨h, h'⟩
    exact .inl ⟨h, by omega⟩
set_option maxHeartbeats 1000000 in
set_option maxRecDepth 10000 in
theorem intEqual_any (v1 v2 : Value) (a b : Int) (w : World) (h1 : IV w v1 a) (h2 : IV w v2 b) :
    Calls Tryz.prog 118 #[v1, v2] w fun e w' => e = .returned (.bool (decide (a = b))) ∧ Up w w' := by
  obtain ⟨s, A, n, c, rfl, hp1, -, -, hn, -⟩ := h1.open_
  obtain ⟨s2, A2, n2, c2, rfl, hp2, -, -, hn2, -⟩ := h2.open_
  obtain ⟨m, hm, hm1, hm2⟩ := hp1.digits
  obtain ⟨k, hk, hk1, hk2⟩ := hp2.digits
  have hiff := eq_iff_digits' hm1 hk1 hm2 hk2
  have HC := Lib.hid (fun W (hu : Up w W) => cmp_any _ _ m k W (Sl.up hm hu) (Sl.up hk hu))
  clear hm hk hm1 hm2 hk1 hk2 h1 h2 hp1 hp2
  rw [show decide (a = b) = decide (s = s2 ∧ ((m : Int) - k).sign = 0) by simp [hiff]]
  generalize ((m : Int) - k).sign = sg at *
  clear hiff
  by_cases hs : s = s2
  · subst hs
    go_enter Tryz.func118, Tryz.ntmps118
    go_wp2_with fail
    refine (HC.out _ ((Up.alloc _ _).trans (Up.alloc _ _))).mono ?_
    rintro e w1 ⟨rfl, nq, rfl⟩
    go_wp2
    go_ret
    exact ⟨by simp; by_cases h : sg = 0 <;> simp [h], ((Up.alloc _ _).trans (Up.alloc _ _)).trans (Up.drewN _ _)⟩
  · have hsf : (s == s2) = false := by simp; exact hs
    go_enter Tryz.func118, Tryz.ntmps118
    go_wp2
    go_ret
    exact ⟨by simp [hs], (Up.alloc _ _).trans (Up.alloc _ _)⟩
end Go.Proofs.YtacbjbnocepnaaaGreatDoor
namespace Go.Proofs.YtacbjbnocepnaaaGreatDoor
open Go.RowKit Fm
end Go.Proofs.YtacbjbnocepnaaaGreatDoor
namespace Go.Proofs.YtacbjbnocepnaaaGreatDoor
open Go.RowKit Fm
end Go.Proofs.YtacbjbnocepnaaaGreatDoor
namespace Go.Proofs.YtacbjbnocepnaaaGreatDoor
open Go.RowKit Fm
end Go.Proofs.YtacbjbnocepnaaaGreatDoor
namespace Go.Proofs.YtacbjbnocepnaaaGreatDoor
open Go.RowKit Fm
end Go.Proofs.YtacbjbnocepnaaaGreatDoor
namespace Go.Proofs.YtacbjbnocepnaaaGreatDoor
open Go.RowKit Fm
set_option maxHeartbeats 1000000 in
set_option maxRecDepth 10000 in
theorem sameInts_any (A B : Option Addr) (c d : Nat) (xs ys : List Int) (w : World) (hx : xs.length ≤ 9223372036854775807) (hy : ys.length ≤ 9223372036854775807) (hr : RdZ w A xs) (hs : RdZ w B ys) :
    Calls Tryz.prog 136 #[.slice A xs.length c, .slice B ys.length d, .func (.func 118) #[] #[]] w fun e w' => e = .returned (.bool (decide (xs = ys))) ∧ Up w w' := by
  by_cases hl : xs.length = ys.length
  · rw [← hl]
    have HL := Lib.hid hl
    clear hl hy
    go_enter Tryz.func136, Tryz.ntmps136
    go_wp2
    go_loopw [16] (fun i wr => ∃ k : Nat, k ≤ xs.length ∧ i = .int .i64 k ∧ Hid (xs.take k = ys.take k) ∧ Hid (Up w wr)) (fun i _ => xs.length - (intOf i).toNat)
    case atStart => exact ⟨0, by omega, rfl, Lib.hid rfl, Lib.hid (Up.refl _)⟩
    case round =>
      obtain ⟨k, hk, rfl, HK, HU⟩ := hrel
      by_cases hkl : k < xs.length
      · have hkl2 : k < ys.length := by have := HL.out; omega
        obtain ⟨b, off, s1, B1, m1, k1, rfl, hbb, c0, c1, hz⟩ := (hr.up HU.out).at_ hkl
        obtain ⟨b2, off2, s2, B2, m2, k2, rfl, hbb2, d0, d1, hz2⟩ := (hs.up HU.out).at_ hkl2
        have i0 : (0 : Int) ≤ (k : Int) := by omega
        have i1 : (k : Int) < (xs.length : Int) := by omega
        have HNEXT : Hid (xs[k] = ys[k] → xs.take (k + 1) = ys.take (k + 1)) := Lib.hid (fun he => by
          rw [List.take_succ_eq_append_getElem hkl, List.take_succ_eq_append_getElem hkl2, HK.out, he])
        have HFALSE : Hid (xs[k] ≠ ys[k] → decide (xs = ys) = false) := Lib.hid (fun he => by
          simp only [decide_eq_false_iff_not]
          intro e; subst e; exact he rfl)
        have HEQ := Lib.hid (fun W (hu : Up wr W) => intEqual_any (.agg #[.int .i64 s1, .slice B1 m1 k1]) (.agg #[.int .i64 s2, .slice B2 m2 k2]) xs[k] ys[k] W (hz.up hu) (hz2.up hu))
        generalize xs[k] = x at *
        generalize ys[k] = y at *
        clear hz hz2 hkl2
        by_cases hfg : x = y
        · have HT := Lib.hid (HNEXT.out hfg)
          rw [decide_eq_true hfg] at HEQ
          clear hfg HNEXT HFALSE
          go_upto_region 6 with fail
          go_region_with
            ((go_at_call 118
              refine Calls.mono (HEQ.out _ (by (repeat (first | exact Below.refl _ _ | exact Hid.out (by assumption) | refine Up.trans ?_ (Up.drew _) | refine Up.trans ?_ (Up.drewN _ _) | refine Up.trans ?_ (Up.alloc _ _) | refine Up.trans ?_ (Hid.out (by assumption)))))) ?_
              rintro e w5 ⟨rfl, hu⟩
              have HU5 := Lib.hid hu
              clear hu))
          all_goals
            go_wp2_with fail
            exact ⟨⟨k + 1, by omega, by simp, HT, Lib.hid (by (repeat (first | exact Below.refl _ _ | exact Hid.out (by assumption) | refine Up.trans ?_ (Up.drew _) | refine Up.trans ?_ (Up.drewN _ _) | refine Up.trans ?_ (Up.alloc _ _) | refine Up.trans ?_ (Hid.out (by assumption)))))⟩, by simp [intOf]; omega⟩
        · have HF := Lib.hid (HFALSE.out hfg)
          rw [decide_eq_false hfg] at HEQ
          clear hfg HNEXT HFALSE
          go_upto_region 6 with fail
          go_region_with
            ((go_at_call 118
              refine Calls.mono (HEQ.out _ (by (repeat (first | exact Below.refl _ _ | exact Hid.out (by assumption) | refine Up.trans ?_ (Up.drew _) | refine Up.trans ?_ (Up.drewN _ _) | refine Up.trans ?_ (Up.alloc _ _) | refine Up.trans ?_ (Hid.out (by assumption)))))) ?_
              rintro e w5 ⟨rfl, hu⟩
              have HU5 := Lib.hid hu
              clear hu))
          all_goals
            go_wp2
            go_ret
            exact ⟨by rw [HF.out]; rfl, by (repeat (first | exact Below.refl _ _ | exact Hid.out (by assumption) | refine Up.trans ?_ (Up.drew _) | refine Up.trans ?_ (Up.drewN _ _) | refine Up.trans ?_ (Up.alloc _ _) | refine Up.trans ?_ (Hid.out (by assumption))))⟩
      · have HN : Hid (decide (xs = ys) = true) := Lib.hid (by
          have h1 := HK.out
          have h2 := HL.out
          rw [List.take_of_length_le (by omega), List.take_of_length_le (by omega)] at h1
          simp [h1])
        go_wp2
        go_ret
        exact ⟨by rw [HN.out]; rfl, HU.out⟩
  · have HN : Hid (decide (xs = ys) = false) := Lib.hid (by
      simp only [decide_eq_false_iff_not]
      intro e; subst e; exact hl rfl)
    have hne : ((xs.length : Int) != (ys.length : Int)) = true := by simp; omega
    rw [HN.out]
    clear hl
    go_enter Tryz.func136, Tryz.ntmps136
    go_wp2
    go_ret
    exact ⟨rfl, Up.refl _⟩
set_option maxHeartbeats 1000000 in
set_option maxRecDepth 10000 in
theorem rowEqual_any (A B : Option Addr) (c d : Nat) (xs ys : List Int) (w : World) (hx : xs.length ≤ 9223372036854775807) (hy : ys.length ≤ 9223372036854775807) (hr : RdZ w A xs) (hs : RdZ w B ys) :
    Calls Tryz.prog 107 #[.slice A xs.length c, .slice B ys.length d] w fun e w' => e = .returned (.bool (decide (xs = ys))) ∧ Up w w' := by
  have HL := Lib.hid (sameInts_any A B c d xs ys w hx hy hr hs)
  clear hr hs
  go_enter Tryz.func107, Tryz.ntmps107
  go_wp2_with fail
  refine Calls.mono HL.out ?_
  rintro e w1 ⟨rfl, hu⟩
  have HU1 := Lib.hid hu
  clear hu
  go_wp2
  go_ret
  exact ⟨rfl, HU1.out⟩
end Go.Proofs.YtacbjbnocepnaaaGreatDoor
namespace Go.Proofs.YtacbjbnocepnaaaGreatDoor
open Go.RowKit Fm
theorem PlaceV.row2 {w : World} {g : Nat} {v : Value} {r : List Int} (h : PlaceV w g v (some r)) : ∃ b off c, v = .slice (some ⟨b, off, none⟩) r.length c ∧ r ≠ [] ∧ r.length ≤ c ∧ c ≤ maxLen ∧ RdZ w (some ⟨b, off, none⟩) r := by
  obtain ⟨A, c, rfl, h1, h2, h3, h4, h5⟩ := h
  obtain ⟨b, off, rfl, hb, -⟩ := h4 h1
  exact ⟨b, off, c, rfl, h1, h2, h3, h4⟩
theorem PlaceV.list {w : World} {g : Nat} {A : Option Addr} {m k : Nat} {o : Option (List Int)} (h : PlaceV w g (.slice A m k) o) : m = (o.getD []).length ∧ RdZ w A (o.getD []) ∧ (o.getD []).length ≤ 9223372036854775807 := by
  cases o with
  | none =>
    have : Value.slice A m k = .slice none 0 0 := h
    injection this with e1 e2 e3
    subst e1; subst e2
    exact ⟨rfl, fun h => absurd rfl h, Nat.zero_le _⟩
  | some r =>
    obtain ⟨b, off, c, e, h1, h2, h3, h4⟩ := h.row2
    injection e with e1 e2 e3
    subst e1; subst e2
    exact ⟨rfl, h4, Nat.le_trans h2 (Nat.le_trans h3 (by unfold maxLen; omega))⟩
theorem PlaceV.list_inj {w w' : World} {g g' : Nat} {v v' : Value} {o o' : Option (List Int)} (h : PlaceV w g v o) (h' : PlaceV w' g' v' o') (e : o.getD [] = o'.getD []) : o = o' := by
  cases o with
  | none =>
    cases o' with
    | none => rfl
    | some r => obtain ⟨b, off, c, -, h1, -⟩ := h'.row2; exact absurd e.symm h1
  | some q =>
    cases o' with
    | none => obtain ⟨b, off, c, -, h1, -⟩ := h.row2; exact absurd e h1
    | some r => exact congrArg some e
theorem sys_ext {S T : Sys} (hS : S.length = 10) (hT : T.length = 10) (h : ∀ c, c < 10 → S.getD c none = T.getD c none) : S = T := by
  refine List.ext_getElem (by rw [hS, hT]) fun i h1 h2 => ?_
  have := h i (by omega)
  rwa [List.getD_eq_getElem?_getD, List.getElem?_eq_getElem h1, List.getD_eq_getElem?_getD, List.getElem?_eq_getElem h2] at this
set_option maxHeartbeats 1000000 in
set_option maxRecDepth 10000 in
theorem sameRows_any (g g2 n : Nat) (S T : Sys) (w : World) (hs : SysB w g n S) (ht : SysB w g2 n T) :
    Calls Tryz.prog 106 #[.slice (some ⟨g, 1, none⟩) 10 10, .slice (some ⟨g2, 1, none⟩) 10 10, .func (.func 107) #[] #[]] w fun e w' => e = .returned (.bool (decide (S = T))) ∧ Up w w' := by
  have HS := Lib.hid (And.intro hs ht)
  have HX : Hid ((∀ c, c < 10 → S.getD c none = T.getD c none) → decide (S = T) = true) := Lib.hid (fun h => decide_eq_true (sys_ext hs.len ht.len h))
  clear hs ht
  go_enter Tryz.func106, Tryz.ntmps106
  go_wp2
  go_loopw [16] (fun i wr => ∃ k : Nat, k ≤ 10 ∧ i = .int .i64 k ∧ Hid (∀ c, c < k → S.getD c none = T.getD c none) ∧ Hid (Up w wr)) (fun i _ => 10 - (intOf i).toNat)
  case atStart => exact ⟨0, by omega, rfl, Lib.hid (fun c hc => by omega), Lib.hid (Up.refl _)⟩
  case round =>
    obtain ⟨k, hk, rfl, HK, HU⟩ := hrel
    by_cases hkl : k < 10
    · obtain ⟨A1, m1, k1, c0, hp1⟩ := (HS.out.1.up HU.out).at_ hkl
      obtain ⟨A2, m2, k2, d0, hp2⟩ := (HS.out.2.up HU.out).at_ hkl
      obtain ⟨e1, z1, l1⟩ := hp1.list
      obtain ⟨e2, z2, l2⟩ := hp2.list
      have hbb := (HS.out.1.up HU.out).lt
      have hbb2 := (HS.out.2.up HU.out).lt
      have i0 : (0 : Int) ≤ (k : Int) := by omega
      have i1 : (k : Int) < 10 := by omega
      have HEQ := Lib.hid (fun W (hu : Up wr W) => rowEqual_any A1 A2 k1 k2 _ _ W l1 l2 (z1.up hu) (z2.up hu))
      rw [← e1, ← e2] at HEQ
      have HINJ := Lib.hid (fun h => hp1.list_inj hp2 h)
      have HNEXT : Hid (S.getD k none = T.getD k none → ∀ c, c < k + 1 → S.getD c none = T.getD c none) := Lib.hid (fun he c hc => by
        rcases Nat.lt_or_ge c k with h1 | h1
        · exact HK.out c h1
        · have : c = k := by omega
          subst this; exact he)
      have HFALSE : Hid (S.getD k none ≠ T.getD k none → decide (S = T) = false) := Lib.hid (fun he => by
        simp only [decide_eq_false_iff_not]
        intro e; subst e; exact he rfl)
      clear hp1 hp2 z1 z2 l1 l2 e1 e2
      rw [Nat.add_comm k 1] at c0 d0
      by_cases hfg : (S.getD k none).getD [] = (T.getD k none).getD []
      · have HT := Lib.hid (HNEXT.out (HINJ.out hfg))
        rw [decide_eq_true hfg] at HEQ
        clear hfg HNEXT HFALSE HINJ
        go_wp2_with fail
        refine Calls.mono (HEQ.out _ (by (repeat (first | exact Below.refl _ _ | exact Hid.out (by assumption) | refine Up.trans ?_ (Up.drew _) | refine Up.trans ?_ (Up.drewN _ _) | refine Up.trans ?_ (Up.alloc _ _) | refine Up.trans ?_ (Hid.out (by assumption)))))) ?_
        rintro e w5 ⟨rfl, hu⟩
        have HU5 := Lib.hid hu
        clear hu
        go_wp2_with fail
        exact ⟨⟨k + 1, by omega, by simp, HT, Lib.hid (by (repeat (first | exact Below.refl _ _ | exact Hid.out (by assumption) | refine Up.trans ?_ (Up.drew _) | refine Up.trans ?_ (Up.drewN _ _) | refine Up.trans ?_ (Up.alloc _ _) | refine Up.trans ?_ (Hid.out (by assumption)))))⟩, by simp [intOf]; omega⟩
      · have HF := Lib.hid (HFALSE.out (fun e => hfg (by rw [e])))
        rw [decide_eq_false hfg] at HEQ
        clear hfg HNEXT HFALSE HINJ
        go_wp2_with fail
        refine Calls.mono (HEQ.out _ (by (repeat (first | exact Below.refl _ _ | exact Hid.out (by assumption) | refine Up.trans ?_ (Up.drew _) | refine Up.trans ?_ (Up.drewN _ _) | refine Up.trans ?_ (Up.alloc _ _) | refine Up.trans ?_ (Hid.out (by assumption)))))) ?_
        rintro e w5 ⟨rfl, hu⟩
        have HU5 := Lib.hid hu
        clear hu
        go_wp2
        go_ret
        exact ⟨by rw [HF.out]; rfl, by (repeat (first | exact Below.refl _ _ | exact Hid.out (by assumption) | refine Up.trans ?_ (Up.drew _) | refine Up.trans ?_ (Up.drewN _ _) | refine Up.trans ?_ (Up.alloc _ _) | refine Up.trans ?_ (Hid.out (by assumption))))⟩
    · have hke : k = 10 := by omega
      subst hke
      have HN := Lib.hid (HX.out HK.out)
      go_wp2
      go_ret
      exact ⟨by rw [HN.out]; rfl, HU.out⟩
end Go.Proofs.YtacbjbnocepnaaaGreatDoor
namespace Go.Proofs.YtacbjbnocepnaaaGreatDoor
open Go.RowKit Fm
def sameS (n : Nat) (S T : Sys) : Bool := if (S.getD n none).isNone && (T.getD n none).isNone then decide (S = T) else decide ((S.getD n none).isNone = (T.getD n none).isNone)
set_option maxHeartbeats 1000000 in
set_option maxRecDepth 10000 in
theorem sysSame_any (g g2 n : Nat) (S T : Sys) (w : World) (hn : n ≤ 9) (hs : SysB w g n S) (ht : SysB w g2 n T) :
    Calls Tryz.prog 67 #[.pointer (some ⟨g, 0, none⟩), .pointer (some ⟨g2, 0, none⟩)] w fun e w' => e = .returned (.bool (sameS n S T)) ∧ Up w w' := by
  have H1 := Lib.hid (fun W (hu : Up w W) => sysSolvable_any g n S W hn (hs.up hu))
  have H2 := Lib.hid (fun W (hu : Up w W) => sysSolvable_any g2 n T W hn (ht.up hu))
  have H3 := Lib.hid (fun W (hu : Up w W) => sameRows_any g g2 n S T W (hs.up hu) (ht.up hu))
  have HQ : Hid (sameS n S T = if (S.getD n none).isNone && (T.getD n none).isNone then decide (S = T) else decide ((S.getD n none).isNone = (T.getD n none).isNone)) := Lib.hid rfl
  have l1 := hs.lt
  have l2 := ht.lt
  clear hs ht
  generalize (S.getD n none).isNone = p at *
  generalize (T.getD n none).isNone = q at *
  go_enter Tryz.func67, Tryz.ntmps67
  go_wp2_with fail
  refine Calls.mono (H1.out _ (by (repeat (first | exact Below.refl _ _ | exact Hid.out (by assumption) | refine Up.trans ?_ (Up.drew _) | refine Up.trans ?_ (Up.drewN _ _) | refine Up.trans ?_ (Up.alloc _ _) | refine Up.trans ?_ (Hid.out (by assumption)))))) ?_
  rintro e w1 ⟨rfl, hu⟩
  have HU1 := Lib.hid hu
  clear hu
  cases p
  · go_wp2_with fail
    refine Calls.mono (H1.out _ (by (repeat (first | exact Below.refl _ _ | exact Hid.out (by assumption) | refine Up.trans ?_ (Up.drew _) | refine Up.trans ?_ (Up.drewN _ _) | refine Up.trans ?_ (Up.alloc _ _) | refine Up.trans ?_ (Hid.out (by assumption)))))) ?_
    rintro e w2 ⟨rfl, hu⟩
    have HU2 := Lib.hid hu
    clear hu
    go_wp2_with fail
    refine Calls.mono (H2.out _ (by (repeat (first | exact Below.refl _ _ | exact Hid.out (by assumption) | refine Up.trans ?_ (Up.drew _) | refine Up.trans ?_ (Up.drewN _ _) | refine Up.trans ?_ (Up.alloc _ _) | refine Up.trans ?_ (Hid.out (by assumption)))))) ?_
    rintro e w3 ⟨rfl, hu⟩
    have HU3 := Lib.hid hu
    clear hu
    go_wp2
    go_ret
    exact ⟨by rw [HQ.out]; cases q <;> rfl, by (repeat (first | exact Below.refl _ _ | exact Hid.out (by assumption) | refine Up.trans ?_ (Up.drew _) | refine Up.trans ?_ (Up.drewN _ _) | refine Up.trans ?_ (Up.alloc _ _) | refine Up.trans ?_ (Hid.out (by assumption))))⟩
  · go_wp2_with fail
    refine Calls.mono (H2.out _ (by (repeat (first | exact Below.refl _ _ | exact Hid.out (by assumption) | refine Up.trans ?_ (Up.drew _) | refine Up.trans ?_ (Up.drewN _ _) | refine Up.trans ?_ (Up.alloc _ _) | refine Up.trans ?_ (Hid.out (by assumption)))))) ?_
    rintro e w2 ⟨rfl, hu⟩
    have HU2 := Lib.hid hu
    clear hu
    cases q
    · go_wp2_with fail
      refine Calls.mono (H1.out _ (by (repeat (first | exact Below.refl _ _ | exact Hid.out (by assumption) | refine Up.trans ?_ (Up.drew _) | refine Up.trans ?_ (Up.drewN _ _) | refine Up.trans ?_ (Up.alloc _ _) | refine Up.trans ?_ (Hid.out (by assumption)))))) ?_
      rintro e w3 ⟨rfl, hu⟩
      have HU3 := Lib.hid hu
      clear hu
      go_wp2_with fail
      refine Calls.mono (H2.out _ (by (repeat (first | exact Below.refl _ _ | exact Hid.out (by assumption) | refine Up.trans ?_ (Up.drew _) | refine Up.trans ?_ (Up.drewN _ _) | refine Up.trans ?_ (Up.alloc _ _) | refine Up.trans ?_ (Hid.out (by assumption)))))) ?_
      rintro e w4 ⟨rfl, hu⟩
      have HU4 := Lib.hid hu
      clear hu
      go_wp2
      go_ret
      exact ⟨by rw [HQ.out]; rfl, by (repeat (first | exact Below.refl _ _ | exact Hid.out (by assumption) | refine Up.trans ?_ (Up.drew _) | refine Up.trans ?_ (Up.drewN _ _) | refine Up.trans ?_ (Up.alloc _ _) | refine Up.trans ?_ (Hid.out (by assumption))))⟩
    · go_upto_region 3 with fail
      go_region_with
        ((go_at_call 106
          refine Calls.mono (H3.out _ (by (repeat (first | exact Below.refl _ _ | exact Hid.out (by assumption) | refine Up.trans ?_ (Up.drew _) | refine Up.trans ?_ (Up.drewN _ _) | refine Up.trans ?_ (Up.alloc _ _) | refine Up.trans ?_ (Hid.out (by assumption)))))) ?_
          rintro e w5 ⟨rfl, hu⟩
          have HU5 := Lib.hid hu
          clear hu))
      all_goals
        go_wp2
        refine bodyPost_ret (by simp [results, Tryz.results67, go_sem]; try rfl) rfl ?_
        exact ⟨by rw [HQ.out]; rfl, by (repeat (first | exact Below.refl _ _ | exact Hid.out (by assumption) | refine Up.trans ?_ (Up.drew _) | refine Up.trans ?_ (Up.drewN _ _) | refine Up.trans ?_ (Up.alloc _ _) | refine Up.trans ?_ (Hid.out (by assumption))))⟩
end Go.Proofs.YtacbjbnocepnaaaGreatDoor
namespace Go.Proofs.YtacbjbnocepnaaaGreatDoor
open Go.RowKit Fm
def sameB (n : Int) (fs gs : List (List Int × Int)) : Bool := if validFs n fs && validFs n gs then sameS n.toNat (sysR n.toNat (fs.map rowF)) (sysR n.toNat (gs.map rowF)) else false
def sameE (n : Int) (fs gs : List (List Int × Int)) : Int := if validFs n fs && validFs n gs then 0 else 1
set_option maxHeartbeats 4000000 in
set_option maxRecDepth 10000 in
theorem linSame_ok (A B : Option Addr) (c d n : Nat) (fs gs : List (List Int × Int)) (w : World) (hc : fs.length ≤ 9223372036854775807) (hd : gs.length ≤ 9223372036854775807) (hr : RdE eltForm w A fs) (hs : RdE eltForm w B gs) (hv : validFs n fs = true) (hv2 : validFs n gs = true) (ht : Tab w) :
    Calls Tryz.prog 21 #[.int .i64 n, .slice A fs.length c, .slice B gs.length d] w fun e w' => e = .returned (.tuple #[.bool (sameS n (sysR n (fs.map rowF)) (sysR n (gs.map rowF))), .int .i64 0]) ∧ Up w w' := by
  obtain ⟨-, hn8, h120, hall⟩ := validFs_all hv
  obtain ⟨-, -, h121, hall2⟩ := validFs_all hv2
  have hn : n ≤ 8 := by omega
  have HV := Lib.hid (fun W (hu : Up w W) => validForms_any A c n fs W hc (hr.up hu))
  have HV2 := Lib.hid (fun W (hu : Up w W) => validForms_any B d n gs W hd (hs.up hu))
  rw [hv] at HV
  rw [hv2] at HV2
  have HSO := Lib.hid (fun W (hu : Up w W) => linSystemOf_any A c n fs W (by omega) (by omega) (hr.up hu) (by simpa using hall) (ht.up hu))
  have HSP := Lib.hid (fun W (hu : Up w W) => linSystemOf_any B d n gs W (by omega) (by omega) (hs.up hu) (by simpa using hall2) (ht.up hu))
  generalize sysR n (fs.map rowF) = S at *
  generalize sysR n (gs.map rowF) = T at *
  clear hr hs hv hv2 hall hall2 ht h120 h121 hn8
  go_enter Tryz.func21, Tryz.ntmps21
  go_wp2_with fail
  refine Calls.mono (HV.out _ (by (repeat (first | exact Below.refl _ _ | exact Hid.out (by assumption) | refine Up.trans ?_ (Up.drew _) | refine Up.trans ?_ (Up.drewN _ _) | refine Up.trans ?_ (Up.alloc _ _) | refine Up.trans ?_ (Hid.out (by assumption)))))) ?_
  rintro e w1 ⟨rfl, hu⟩
  have HU1 := Lib.hid hu
  clear hu
  go_wp2_with fail
  refine Calls.mono (HV2.out _ (by (repeat (first | exact Below.refl _ _ | exact Hid.out (by assumption) | refine Up.trans ?_ (Up.drew _) | refine Up.trans ?_ (Up.drewN _ _) | refine Up.trans ?_ (Up.alloc _ _) | refine Up.trans ?_ (Hid.out (by assumption)))))) ?_
  rintro e w2 ⟨rfl, hu⟩
  have HU2 := Lib.hid hu
  clear hu
  go_wp2_with fail
  refine Calls.mono (HSO.out _ (by (repeat (first | exact Below.refl _ _ | exact Hid.out (by assumption) | refine Up.trans ?_ (Up.drew _) | refine Up.trans ?_ (Up.drewN _ _) | refine Up.trans ?_ (Up.alloc _ _) | refine Up.trans ?_ (Hid.out (by assumption)))))) ?_
  rintro e w3 ⟨arr, rfl, hs, hu⟩
  have HU3 := Lib.hid hu
  have HS3 := Lib.hid hs
  obtain ⟨A0, ma0, ka0, A1, ma1, ka1, A2, ma2, ka2, A3, ma3, ka3, A4, ma4, ka4, A5, ma5, ka5, A6, ma6, ka6, A7, ma7, ka7, A8, ma8, ka8, A9, ma9, ka9, rfl⟩ := hs.open_
  clear hu hs
  go_wp2_with fail
  refine Calls.mono (HSP.out _ (by (repeat (first | exact Below.refl _ _ | exact Hid.out (by assumption) | refine Up.trans ?_ (Up.drew _) | refine Up.trans ?_ (Up.drewN _ _) | refine Up.trans ?_ (Up.alloc _ _) | refine Up.trans ?_ (Hid.out (by assumption)))))) ?_
  rintro e w4 ⟨arr, rfl, ht, hu⟩
  have HU4 := Lib.hid hu
  have HT4 := Lib.hid ht
  obtain ⟨B0, mb0, kb0, B1, mb1, kb1, B2, mb2, kb2, B3, mb3, kb3, B4, mb4, kb4, B5, mb5, kb5, B6, mb6, kb6, B7, mb7, kb7, B8, mb8, kb8, B9, mb9, kb9, rfl⟩ := ht.open_
  clear ht
  have HS4 := Lib.hid (HS3.out.up hu)
  have HS5 := Lib.hid (HS4.out.var)
  have HU5 := Lib.hid (Up.alloc w4 (.cells #[.int .i64 n, .slice A0 ma0 ka0, .slice A1 ma1 ka1, .slice A2 ma2 ka2, .slice A3 ma3 ka3, .slice A4 ma4 ka4, .slice A5 ma5 ka5, .slice A6 ma6 ka6, .slice A7 ma7 ka7, .slice A8 ma8 ka8, .slice A9 ma9 ka9] 93))
  have HT5 := Lib.hid (HT4.out.up HU5.out)
  have HZ := Lib.hid (size_alloc w4 (.cells #[.int .i64 n, .slice A0 ma0 ka0, .slice A1 ma1 ka1, .slice A2 ma2 ka2, .slice A3 ma3 ka3, .slice A4 ma4 ka4, .slice A5 ma5 ka5, .slice A6 ma6 ka6, .slice A7 ma7 ka7, .slice A8 ma8 ka8, .slice A9 ma9 ka9] 93))
  clear hu HS3
  go_wp2_with fail
  generalize w4.alloc (.cells #[.int .i64 n, .slice A0 ma0 ka0, .slice A1 ma1 ka1, .slice A2 ma2 ka2, .slice A3 ma3 ka3, .slice A4 ma4 ka4, .slice A5 ma5 ka5, .slice A6 ma6 ka6, .slice A7 ma7 ka7, .slice A8 ma8 ka8, .slice A9 ma9 ka9] 93) = w5 at *
  have HT6 := Lib.hid (HT5.out.var)
  rw [HZ.out] at HT6
  have HS6 := Lib.hid (HS5.out.up (Up.alloc w5 (.cells #[.int .i64 n, .slice B0 mb0 kb0, .slice B1 mb1 kb1, .slice B2 mb2 kb2, .slice B3 mb3 kb3, .slice B4 mb4 kb4, .slice B5 mb5 kb5, .slice B6 mb6 kb6, .slice B7 mb7 kb7, .slice B8 mb8 kb8, .slice B9 mb9 kb9] 93)))
  refine Calls.mono (sysSame_any _ _ n S T _ (by omega) HS6.out HT6.out) ?_
  rintro e w6 ⟨rfl, hu⟩
  have HU6 := Lib.hid hu
  clear hu
  go_wp2
  refine bodyPost_ret (by simp [results, Tryz.results21, go_sem]; try rfl) rfl ?_
  exact ⟨rfl, by (repeat (first | exact Below.refl _ _ | exact Hid.out (by assumption) | refine Up.trans ?_ (Up.drew _) | refine Up.trans ?_ (Up.drewN _ _) | refine Up.trans ?_ (Up.alloc _ _) | refine Up.trans ?_ (Hid.out (by assumption))))⟩
set_option maxHeartbeats 1000000 in
set_option maxRecDepth 10000 in
theorem linSame_bad (A B : Option Addr) (c d : Nat) (n : Int) (fs gs : List (List Int × Int)) (w : World) (hc : fs.length ≤ 9223372036854775807) (hd : gs.length ≤ 9223372036854775807) (hr : RdE eltForm w A fs) (hs : RdE eltForm w B gs) (hv : (validFs n fs && validFs n gs) = false) :
    Calls Tryz.prog 21 #[.int .i64 n, .slice A fs.length c, .slice B gs.length d] w fun e w' => e = .returned (.tuple #[.bool false, .int .i64 1]) ∧ Up w w' := by
  have HV := Lib.hid (fun W (hu : Up w W) => validForms_any A c n fs W hc (hr.up hu))
  have HV2 := Lib.hid (fun W (hu : Up w W) => validForms_any B d n gs W hd (hs.up hu))
  have HB := Lib.hid hv
  generalize validFs n fs = p at *
  generalize validFs n gs = q at *
  clear hr hs hv
  go_enter Tryz.func21, Tryz.ntmps21
  go_wp2_with fail
  refine Calls.mono (HV.out _ (by (repeat (first | exact Below.refl _ _ | exact Hid.out (by assumption) | refine Up.trans ?_ (Up.drew _) | refine Up.trans ?_ (Up.drewN _ _) | refine Up.trans ?_ (Up.alloc _ _) | refine Up.trans ?_ (Hid.out (by assumption)))))) ?_
  rintro e w1 ⟨rfl, hu⟩
  have HU1 := Lib.hid hu
  clear hu
  cases p
  · go_wp2
    refine bodyPost_ret (by simp [results, Tryz.results21, go_sem]; try rfl) rfl ?_
    exact ⟨rfl, by (repeat (first | exact Below.refl _ _ | exact Hid.out (by assumption) | refine Up.trans ?_ (Up.drew _) | refine Up.trans ?_ (Up.drewN _ _) | refine Up.trans ?_ (Up.alloc _ _) | refine Up.trans ?_ (Hid.out (by assumption))))⟩
  · go_wp2_with fail
    refine Calls.mono (HV2.out _ (by (repeat (first | exact Below.refl _ _ | exact Hid.out (by assumption) | refine Up.trans ?_ (Up.drew _) | refine Up.trans ?_ (Up.drewN _ _) | refine Up.trans ?_ (Up.alloc _ _) | refine Up.trans ?_ (Hid.out (by assumption)))))) ?_
    rintro e w2 ⟨rfl, hu⟩
    have HU2 := Lib.hid hu
    clear hu
    cases q
    · go_wp2
      refine bodyPost_ret (by simp [results, Tryz.results21, go_sem]; try rfl) rfl ?_
      exact ⟨rfl, by (repeat (first | exact Below.refl _ _ | exact Hid.out (by assumption) | refine Up.trans ?_ (Up.drew _) | refine Up.trans ?_ (Up.drewN _ _) | refine Up.trans ?_ (Up.alloc _ _) | refine Up.trans ?_ (Hid.out (by assumption))))⟩
    · exact absurd HB.out (by decide)
theorem linSame_any (A B : Option Addr) (c d : Nat) (n : Int) (fs gs : List (List Int × Int)) (w : World) (hc : fs.length ≤ 9223372036854775807) (hd : gs.length ≤ 9223372036854775807) (hr : RdE eltForm w A fs) (hs : RdE eltForm w B gs) (ht : Tab w) :
    Calls Tryz.prog 21 #[.int .i64 n, .slice A fs.length c, .slice B gs.length d] w fun e w' => e = .returned (.tuple #[.bool (sameB n fs gs), .int .i64 (sameE n fs gs)]) ∧ Up w w' := by
  unfold sameB sameE
  rcases hv : (validFs n fs && validFs n gs) with _ | _
  · exact linSame_bad A B c d n fs gs w hc hd hr hs hv
  · rw [Bool.and_eq_true] at hv
    obtain ⟨h0, -⟩ := validFs_all hv.1
    obtain ⟨m, rfl⟩ : ∃ m : Nat, n = m := ⟨n.toNat, by omega⟩
    simp only [Int.toNat_natCast, if_true]
    exact linSame_ok A B c d m fs gs w hc hd hr hs hv.1 hv.2 ht
end Go.Proofs.YtacbjbnocepnaaaGreatDoor

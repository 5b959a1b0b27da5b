/- Contracts of the systems of rows and of the package of forms. -/
import Derived.Test.YtacbjbnocepnaaaGreatDoorQHE
import Derived.WalkSpells
namespace Go.Proofs.YtacbjbnocepnaaaGreatDoor
open Go.RowKit Fm
theorem colR_keep (n : Nat) (hn : n ≤ 9) {p : List Int} {c : Nat} (hp : LeadAt n c p) : ∀ d S i, d ≤ c → d ≤ i → Ech n S → (colR p c d S).getD i none = S.getD i none := by
  intro d
  induction d with
  | zero => intro S i _ _ _; rfl
  | succ d ih =>
    intro S i hd hi h
    have hh := colR_ech n hn hp d S (by omega) h
    unfold colR
    split
    · exact ih S i (by omega) (by omega) h
    · rw [getD_set _ d i _ (by rw [hh.1]; have := hp.le; omega), if_neg (by omega)]
      exact ih S i (by omega) (by omega) h
structure RedSt (W0 : World) (g n M : Nat) (S : Sys) (wr : World) (j : Nat) (T : Sys) : Prop where
  sys : SysB wr g n T
  up : Up W0 wr
  ech : Ech n T
  sb : SB (fun _ => 2 ^ (n + 1 - j) * (M + 1) - 1) T
  same : redR j T = redR (n + 1) S
theorem red_le {n j M : Nat} (hn : n ≤ 9) (hM : M ≤ 62463) : 2 ^ (n + 1 - j) * (M + 1) - 1 ≤ 63963135 := by
  have h1 : 2 ^ (n + 1 - j) ≤ 2 ^ 10 := Nat.pow_le_pow_right (by omega) (by omega)
  have h2 : 2 ^ (n + 1 - j) * (M + 1) ≤ 2 ^ 10 * 62464 := Nat.mul_le_mul h1 (by omega)
  omega
theorem RedSt.next {W0 : World} {g n M : Nat} {S : Sys} {wr w' : World} {c : Nat} {T : Sys} {p : List Int} (h : RedSt W0 g n M S wr (c + 1) T) (hn : n ≤ 9) (hp : T.getD c none = some p) (hs : SysB w' g n ((colR p c c T).set c (some (posR c (primR p))))) (hu : Up W0 w') :
    RedSt W0 g n M S w' c ((colR p c c T).set c (some (posR c (primR p)))) := by
  have hl := h.ech.2 _ _ hp
  have hE := colR_ech n hn hl c T (Nat.le_refl _) h.ech
  have hc := hl.le
  obtain ⟨M', hM'⟩ : ∃ M', M' = 2 ^ (n + 1 - (c + 1)) * (M + 1) - 1 := ⟨_, rfl⟩
  have e : 2 ^ (n + 1 - c) * (M + 1) - 1 = 2 * M' + 1 := by
    have pw : 0 < 2 ^ (n - c) * (M + 1) := Nat.mul_pos (Nat.two_pow_pos _) (by omega)
    rw [hM', show n + 1 - c = (n - c) + 1 by omega, show n + 1 - (c + 1) = n - c by omega, Nat.pow_succ, Nat.mul_comm (2 ^ (n - c)) 2, Nat.mul_assoc]
    omega
  have hsb : SB (fun _ => M') T := by rw [hM']; exact h.sb
  have hb := colR_sb n M' hn hl (hsb _ _ hp) c T (Nat.le_refl _) h.ech (fun i r hi => (hsb i r hi).mono (by show M' ≤ if i < c then M' else 2 * M' + 1; split <;> omega))
  have hb2 : SB (fun _ => 2 * M' + 1) (colR p c c T) := fun i r hi => (hb i r hi).mono (by
    show (if i < c then 2 * M' + 1 else if i < c then M' else 2 * M' + 1) ≤ 2 * M' + 1
    repeat' split
    all_goals omega)
  have hq : Bd M' (posR c (primR p)) := by
    unfold posR; split
    · exact (hsb _ _ hp).prim.neg
    · exact (hsb _ _ hp).prim
  refine ⟨hs, hu, hE.set (posR_lead (primR_lead hl)) hn, ?_, ?_⟩
  · rw [e]; exact hb2.set hE (by omega) (hq.mono (by omega))
  · rw [← h.same]
    conv => rhs; unfold redR
    rw [hp]
theorem RedSt.skip {W0 : World} {g n M : Nat} {S : Sys} {wr : World} {c : Nat} {T : Sys} (h : RedSt W0 g n M S wr (c + 1) T) (hc : c ≤ n) (hp : T.getD c none = none) : RedSt W0 g n M S wr c T := by
  refine ⟨h.sys, h.up, h.ech, fun i r hi => (h.sb i r hi).mono ?_, ?_⟩
  · show 2 ^ (n + 1 - (c + 1)) * (M + 1) - 1 ≤ 2 ^ (n + 1 - c) * (M + 1) - 1
    have h1 : 2 ^ (n + 1 - (c + 1)) ≤ 2 ^ (n + 1 - c) := Nat.pow_le_pow_right (by omega) (by omega)
    have h2 : 2 ^ (n + 1 - (c + 1)) * (M + 1) ≤ 2 ^ (n + 1 - c) * (M + 1) := Nat.mul_le_mul_right _ h1
    omega
  · rw [← h.same]
    conv => rhs; unfold redR
    rw [hp]
theorem red_two {n c M : Nat} (hn : n ≤ 9) (hM : M ≤ 62463) (hc : c ≤ n) : (2 ^ (n + 1 - (c + 1)) * (M + 1) - 1) + (2 ^ (n + 1 - (c + 1)) * (M + 1) - 1) + 1 ≤ 67108864 := by
  have h := red_le (j := c) hn hM
  have pw : 0 < 2 ^ (n - c) * (M + 1) := Nat.mul_pos (Nat.two_pow_pos _) (by omega)
  rw [show n + 1 - c = (n - c) + 1 by omega, Nat.pow_succ, Nat.mul_comm (2 ^ (n - c)) 2, Nat.mul_assoc] at h
  rw [show n + 1 - (c + 1) = n - c by omega]
  omega
theorem red_end {W0 : World} {g n M : Nat} {S : Sys} {wr : World} {c : Nat} (hc : c ≤ n) (h : ∃ T, Hid (RedSt W0 g n M S wr c T)) :
    ((∃ c' : Nat, c' ≤ n ∧ Value.int .i64 ((c : Int) - 1) = .int .i64 c' ∧ ∃ T, Hid (RedSt W0 g n M S wr (c' + 1) T)) ∨ (Value.int .i64 ((c : Int) - 1) = .int .i64 (-1) ∧ ∃ T, Hid (RedSt W0 g n M S wr 0 T))) ∧
      (intOf (Value.int .i64 ((c : Int) - 1)) + 1).toNat < (intOf (Value.int .i64 c) + 1).toNat := by
  refine ⟨?_, by simp only [intOf]; omega⟩
  cases c with
  | zero => exact .inr ⟨rfl, h⟩
  | succ c => exact .inl ⟨c, by omega, congrArg (Value.int .i64) (by omega), h⟩
set_option maxHeartbeats 4000000 in
set_option maxRecDepth 10000 in
theorem sysReduce_any (g n M : Nat) (S : Sys) (W0 w : World) (hn : n ≤ 9) (hM : M ≤ 62463) (hS : Ech n S) (hB : SB (fun _ => M) S)
    (hs : SysB w g n S) (hW : Up W0 w) (hg : W0.heap.size ≤ g) (ht : Tab W0) :
    Calls Tryz.prog 127 #[.pointer (some ⟨g, 0, none⟩)] w fun e w' => e = .returned (.tuple #[]) ∧ SysB w' g n (redR (n + 1) S) ∧ Up W0 w' := by
  have hcell := hs.cell0
  have hlt := hs.lt
  have qT : ∀ (w : World) (a : Option Addr) (n c n' c' : Nat), (binOp .eql 90 (.slice a n c) (.slice none n' c')).run Tryz.prog w = .ok (.bool a.isNone) w := fun w a n c n' c' => Lib.run_eql_slice_nil w _ _ a n c n' c' Tryz.underlying90
  have qN : ∀ (w : World) (a : Option Addr) (n c n' c' : Nat), (binOp .neq 90 (.slice a n c) (.slice none n' c')).run Tryz.prog w = .ok (.bool (!a.isNone)) w := fun w a n c n' c' => run_neq_slice_nil_any w _ _ a n c n' c' Tryz.underlying90
  have H0 : Hid (RedSt W0 g n M S w (n + 1) S) := Lib.hid ⟨hs, hW, hS, by rw [Nat.sub_self]; simpa using hB, rfl⟩
  clear hS hB hs hW
  go_enter Tryz.func127, Tryz.ntmps127
  go_wp2
  clear hcell
  go_loopw [2] (fun i wr => (∃ c : Nat, c ≤ n ∧ i = .int .i64 c ∧ ∃ T, Hid (RedSt W0 g n M S wr (c + 1) T)) ∨ (i = .int .i64 (-1) ∧ ∃ T, Hid (RedSt W0 g n M S wr 0 T))) (fun i _ => (intOf i + 1).toNat)
  case atStart => exact .inl ⟨n, Nat.le_refl _, rfl, S, H0⟩
  case round =>
    rcases hrel with ⟨c, hc, rfl, T, HR⟩ | ⟨rfl, T, HR⟩
    · have hc10 : c < 10 := by omega
      have i0 : (0 : Int) ≤ (c : Int) := by omega
      have i3 : (c : Int) < 10 := by omega
      have i4 : ¬ (c : Int) < 0 := by omega
      have hf2 := HR.out.sys.frozen (1 + c)
      have hl1 := HR.out.sys.lt
      obtain ⟨A2, m2, q2, hcell2, hplace⟩ := HR.out.sys.at_ hc10
      rw [Nat.add_comm c 1] at hcell2
      rcases hp : T.getD c none with _ | p
      · rw [hp] at hplace
        have hpl : Value.slice A2 m2 q2 = Value.slice none 0 0 := hplace
        rw [hpl] at hcell2
        have HN := Lib.hid (HR.out.skip hc hp)
        clear hp hpl hplace
        go_wp2_with fail
        exact red_end hc ⟨T, HN⟩
      · rw [hp] at hplace
        have HP := Lib.hid hp
        have hld := HR.out.ech.2 c p hp
        have HLD := Lib.hid hld
        obtain ⟨A3, c3, hv3, hne3, hcap3, hmax3, hrd3, haw3⟩ := hplace
        obtain ⟨b3, off3, rfl, -, -⟩ := hrd3 hne3
        rw [hv3, hld.len] at hcell2
        clear hp hv3 hrd3 hne3 hcap3 hmax3 haw3 hld
        go_wp2_with fail
        go_loopw [20] (fun i wx => ∃ d : Nat, d ≤ c ∧ i = .int .i64 d ∧ Hid (SysB wx g n (colR p c d T)) ∧ Hid (Up W0 wx)) (fun i _ => c - (intOf i).toNat)
        case atStart => exact ⟨0, by omega, rfl, Lib.hid HR.out.sys, Lib.hid HR.out.up⟩
        case round =>
          obtain ⟨d, hd, rfl, HS, HU⟩ := hrel
          by_cases hdc : d < c
          · have hd10 : d < 10 := by omega
            have j0 : (0 : Int) ≤ (d : Int) := by omega
            have j3 : (d : Int) < 10 := by omega
            have j4 : (d : Int) < (c : Int) := by omega
            have hf3 := HS.out.frozen (1 + d)
            have hl2 := HS.out.lt
            obtain ⟨A4, m4, q4, hcell4, hplace4⟩ := HS.out.at_ hd10
            rw [Nat.add_comm d 1] at hcell4
            have HEC := Lib.hid (colR_ech n hn HLD.out d T (by omega) HR.out.ech)
            have HNEXT : Hid (colR p c (d + 1) T = match (colR p c d T).getD d none with
              | none => colR p c d T
              | some r => (colR p c d T).set d (some (cancelR r p c))) := Lib.hid rfl
            clear hcell2 hf2 hl1
            rcases hq : (colR p c d T).getD d none with _ | r
            · rw [hq] at hplace4 HNEXT
              have hpl : Value.slice A4 m4 q4 = Value.slice none 0 0 := hplace4
              rw [hpl] at hcell4
              clear hq hpl hplace4
              go_wp2_with fail
              exact ⟨⟨d + 1, by omega, by simp, by rw [HNEXT.out]; exact HS, HU⟩, by simp [intOf]; omega⟩
            · rw [hq] at hplace4 HNEXT
              have hl4 := HEC.out.2 d r hq
              obtain ⟨A5, c5, hv5, hne5, hcap5, hmax5, hrd5, haw5⟩ := hplace4
              obtain ⟨b5, off5, rfl, -, -⟩ := hrd5 hne5
              rw [hv5, hl4.len] at hcell4
              have hf4 := HS.out.frozen (1 + c)
              obtain ⟨A6, m6, q6, hcell6, hplace6⟩ := HS.out.at_ hc10
              rw [Nat.add_comm c 1] at hcell6
              rw [colR_keep n hn HLD.out d T c (by omega) (by omega) HR.out.ech, HP.out] at hplace6
              obtain ⟨A7, c7, hv7, hne7, hcap7, hmax7, hrd7, haw7⟩ := hplace6
              obtain ⟨b7, off7, rfl, -, -⟩ := hrd7 hne7
              rw [hv7, HLD.out.len] at hcell6
              have hbr : Bd (2 ^ (n + 1 - (c + 1)) * (M + 1) - 1) r := by
                have := colR_sb n (2 ^ (n + 1 - (c + 1)) * (M + 1) - 1) hn HLD.out (HR.out.sb _ _ HP.out) d T (by omega) HR.out.ech (fun i r hi => (HR.out.sb i r hi).mono (by show (2 ^ (n + 1 - (c + 1)) * (M + 1) - 1) ≤ if i < c then (2 ^ (n + 1 - (c + 1)) * (M + 1) - 1) else _; split <;> omega)) d r hq
                simp only [Nat.lt_irrefl, if_false] at this
                rwa [if_pos hdc] at this
              have HCA := Lib.hid (fun W (hu : Up wr W) => rowCancel_any (some ⟨b5, off5, none⟩) (some ⟨b7, off7, none⟩) c5 c7 r p c _ _ W hcap5 hmax5 hcap7 hmax7 (by rw [hl4.len]; omega) (by rw [hl4.len, HLD.out.len]) (by rw [hl4.len]; omega) (hrd5.up hu) (hrd7.up hu) hbr (HR.out.sb _ _ HP.out) (red_two hn hM hc) HLD.out.at_ (ht.up (HU.out.trans hu)))
              rw [hl4.len, HLD.out.len] at HCA
              have HLC : Hid ((cancelR r p c).length = n + 1) := Lib.hid (by rw [cancelR_length _ _ _ (by rw [hl4.len, HLD.out.len]), hl4.len])
              have HQ := Lib.hid hq
              clear hq hv5 hne5 hcap5 hmax5 hrd5 haw5 hv7 hne7 hcap7 hmax7 hrd7 haw7 hl4 hbr
              go_upto_region 8 with fail
              go_region_with
                ((go_at_call 145
                  refine Calls.mono (HCA.out _ (by (repeat (first | exact Below.refl _ _ | exact Hid.out (by assumption) | refine Up.trans ?_ (Up.drew _) | refine Up.trans ?_ (Up.drewN _ _) | refine Up.trans ?_ (Up.alloc _ _) | refine Up.trans ?_ (Hid.out (by assumption)))))) ?_
                  rintro e w2 ⟨v, rfl, ⟨A4, c4, rfl, r1, r2, r3, r4⟩, hu⟩
                  have HU2 := Lib.hid hu
                  have HS2 := Lib.hid (HS.out.up (w' := w2) (by (repeat (first | exact Below.refl _ _ | exact Hid.out (by assumption) | refine Up.trans ?_ (Up.drew _) | refine Up.trans ?_ (Up.drewN _ _) | refine Up.trans ?_ (Up.alloc _ _) | refine Up.trans ?_ (Hid.out (by assumption))))))
                  have HRR := Lib.hid (And.intro r1 (And.intro r2 (And.intro r3 r4)))
                  have hf3 := HS2.out.frozen (1 + d)
                  obtain ⟨A8, m8, q8, hcell8, -⟩ := HS2.out.at_ hd10
                  rw [Nat.add_comm d 1] at hcell8
                  rw [HLC.out]
                  clear hu r1 r2 r3 r4))
              all_goals
                have HST := Lib.hid (HS2.out.store hd10 (A := A4) (m := n + 1) (k := c4) (o := some (cancelR r p c)) ⟨A4, c4, by rw [HLC.out], (by intro e; have := HLC.out; rw [e] at this; simp at this), HRR.out.1, HRR.out.2.1, HRR.out.2.2.1, fun b9 off9 e => by
                  have h8 : wr.heap.size ≤ b9 := HRR.out.2.2.2 b9 off9 e
                  have := HS.out.lt
                  omega⟩)
                rw [Nat.add_comm d 1] at HST
                have HUS : Hid (Up W0 (w2.setCell ⟨g, 1 + d, none⟩ (.slice A4 (n + 1) c4))) := Lib.hid (Below.setCell (p := ⟨g, 1 + d, none⟩) (HU.out.trans (show Up wr w2 by (repeat (first | exact Below.refl _ _ | exact Hid.out (by assumption) | refine Up.trans ?_ (Up.drew _) | refine Up.trans ?_ (Up.drewN _ _) | refine Up.trans ?_ (Up.alloc _ _) | refine Up.trans ?_ (Hid.out (by assumption)))))) hg _)
                go_wp2_with fail
                exact ⟨⟨d + 1, by omega, by simp, by rw [HNEXT.out]; exact HST, HUS⟩, by simp [intOf]; omega⟩
          · have hdc' : d = c := by omega
            subst hdc'
            have hf4 := HS.out.frozen (1 + d)
            have hl2 := HS.out.lt
            have HEC := Lib.hid (colR_ech n hn HLD.out d T (Nat.le_refl _) HR.out.ech)
            obtain ⟨A6, m6, q6, hcell6, hplace6⟩ := HS.out.at_ hc10
            rw [Nat.add_comm d 1] at hcell6
            rw [colR_keep n hn HLD.out d T d (Nat.le_refl _) (Nat.le_refl _) HR.out.ech, HP.out] at hplace6
            obtain ⟨A7, c7, hv7, hne7, hcap7, hmax7, hrd7, haw7⟩ := hplace6
            obtain ⟨b7, off7, rfl, -, -⟩ := hrd7 hne7
            rw [hv7, HLD.out.len] at hcell6
            have hbp : Bd 67108864 p := (HR.out.sb _ _ HP.out).mono (by
              show 2 ^ (n + 1 - (d + 1)) * (M + 1) - 1 ≤ 67108864
              have := red_two (n := n) (c := d) hn hM hc; omega)
            have HPR := Lib.hid (fun W (hu : Up wr W) => rowPrim_any (some ⟨b7, off7, none⟩) c7 p W hcap7 hmax7 (by rw [HLD.out.len]; omega) (hrd7.up hu) hbp (ht.up (HU.out.trans hu)))
            rw [HLD.out.len] at HPR
            have HLP : Hid ((primR p).length = n + 1) := Lib.hid (by rw [primR_length, HLD.out.len])
            have HAW := Lib.hid haw7
            have HNP := Lib.hid (fun (w' : World) hs hu => HR.out.next (w' := w') hn HP.out hs hu)
            clear hcell2 hf2 hl1 hv7 hne7 hcap7 hmax7 hrd7 haw7 hbp
            go_upto_region 10 with fail
            go_region_with
              ((go_at_call 78
                refine Calls.mono (HPR.out _ (by (repeat (first | exact Below.refl _ _ | exact Hid.out (by assumption) | refine Up.trans ?_ (Up.drew _) | refine Up.trans ?_ (Up.drewN _ _) | refine Up.trans ?_ (Up.alloc _ _) | refine Up.trans ?_ (Hid.out (by assumption)))))) ?_
                rintro e w2 ⟨A4, c4, rfl, r1, r2, r3, r4, hu⟩
                have HU2 := Lib.hid hu
                have HS2 := Lib.hid (HS.out.up (w' := w2) (by (repeat (first | exact Below.refl _ _ | exact Hid.out (by assumption) | refine Up.trans ?_ (Up.drew _) | refine Up.trans ?_ (Up.drewN _ _) | refine Up.trans ?_ (Up.alloc _ _) | refine Up.trans ?_ (Hid.out (by assumption))))))
                have HRR := Lib.hid (And.intro r1 (And.intro r2 (And.intro r3 r4)))
                have hf3 := HS2.out.frozen (1 + d)
                obtain ⟨A8, m8, q8, hcell8, -⟩ := HS2.out.at_ hc10
                rw [Nat.add_comm d 1] at hcell8
                rw [HLP.out]
                clear hu r1 r2 r3 r4))
            all_goals
              have HAW4 : Hid (Away A4 g) := Lib.hid (fun b9 off9 e => by
                rcases HRR.out.2.2.2 b9 off9 e with h8 | h8
                · have h9 : wr.heap.size ≤ b9 := h8
                  have := HS.out.lt
                  omega
                · exact HAW.out b9 off9 (h8 ▸ e))
              have HST := Lib.hid (HS2.out.store hc10 (A := A4) (m := n + 1) (k := c4) (o := some (primR p)) ⟨A4, c4, by rw [HLP.out], (by intro e; have := HLP.out; rw [e] at this; simp at this), HRR.out.1, HRR.out.2.1, HRR.out.2.2.1, HAW4.out⟩)
              rw [Nat.add_comm d 1] at HST
              have HUS : Hid (Up W0 (w2.setCell ⟨g, 1 + d, none⟩ (.slice A4 (n + 1) c4))) := Lib.hid (Below.setCell (p := ⟨g, 1 + d, none⟩) (HU.out.trans (show Up wr w2 by (repeat (first | exact Below.refl _ _ | exact Hid.out (by assumption) | refine Up.trans ?_ (Up.drew _) | refine Up.trans ?_ (Up.drewN _ _) | refine Up.trans ?_ (Up.alloc _ _) | refine Up.trans ?_ (Hid.out (by assumption)))))) hg _)
              go_upto_region 11 with fail
              obtain ⟨w3, hw3⟩ : ∃ w3, w3 = w2.setCell ⟨g, 1 + d, none⟩ (.slice A4 (n + 1) c4) := ⟨_, rfl⟩
              rw [← hw3] at HST HUS ⊢
              clear hw3 hcell8 hf3
              have hf5 := HST.out.frozen (1 + d)
              have hl5 := HST.out.lt
              have hget : ((colR p d d T).set d (some (primR p))).getD d none = some (primR p) := by rw [getD_set _ d d _ (by rw [HEC.out.1]; exact hc10), if_pos rfl]
              obtain ⟨A9, m9, q9, hcell9, hplace9⟩ := HST.out.at_ hc10
              rw [Nat.add_comm d 1] at hcell9
              rw [hget] at hplace9
              obtain ⟨A10, c10, hv10, hne10, hcap10, hmax10, hrd10, haw10⟩ := hplace9
              rw [hv10, HLP.out] at hcell9
              obtain ⟨b11, off11, s11, B11, m11, k11, rfl, hbb11, e0, e1, hz11⟩ := hrd10.at_ (i := d) (by rw [HLP.out]; omega)
              have ez : (primR p)[d]'(by rw [HLP.out]; omega) = (primR p).getD d 0 := by rw [List.getD_eq_getElem?_getD, List.getElem?_eq_getElem (by rw [HLP.out]; omega)]; rfl
              rw [ez] at hz11
              obtain ⟨y, hy⟩ : ∃ y, y = (primR p).getD d 0 := ⟨_, rfl⟩
              rw [← hy] at hz11
              have HY := Lib.hid hy
              have HY0 : Hid (y ≠ 0) := Lib.hid (by rw [hy]; exact (primR_lead HLD.out).at_)
              have HZ11 := Lib.hid hz11
              have HSG := Lib.hid (fun W (hu : Up w3 W) => intSign_any _ _ W (HZ11.out.up hu))
              have HNG := Lib.hid (fun W (hu : Up w3 W) => rowNeg_any (some ⟨b11, off11, none⟩) c10 (primR p) W hcap10 hmax10 (by rw [HLP.out]; omega) (hrd10.up hu))
              rw [HLP.out] at HNG
              have HLN : Hid ((negR (primR p)).length = n + 1) := Lib.hid (by rw [negR_length, HLP.out])
              have j1 : (d : Int) < (n : Int) + 1 := by omega
              clear hy hz11 ez hv10 hne10 hcap10 hmax10 hrd10 haw10 hget
              go_wp2_with fail
              refine Calls.mono (HSG.out _ (Up.refl _)) ?_
              rintro e w4 ⟨rfl, hu⟩
              have HU4 := Lib.hid hu
              clear hu
              by_cases hy0 : y < 0
              · have hsy : y.sign = -1 := Int.sign_eq_neg_one_of_neg hy0
                have HPOS : Hid (posR d (primR p) = negR (primR p)) := Lib.hid (by unfold posR; rw [← HY.out, if_pos hy0])
                have HS4 := Lib.hid (HST.out.up HU4.out)
                have hf6 := HS4.out.frozen (1 + d)
                have hl6 := HS4.out.lt
                have hcell10 : w4.cell? ⟨g, 1 + d, none⟩ = some (.slice (some ⟨b11, off11, none⟩) (n + 1) c10) := (HU4.out.cells.1 _ _ hl5).trans hcell9
                rw [hsy]
                clear hsy hy0 e0 e1 hbb11 hcell9 hf5
                go_upto_region 12 with fail
                go_region_with
                  ((go_at_call 146
                    refine Calls.mono (HNG.out _ (by (repeat (first | exact Below.refl _ _ | exact Hid.out (by assumption) | refine Up.trans ?_ (Up.drew _) | refine Up.trans ?_ (Up.drewN _ _) | refine Up.trans ?_ (Up.alloc _ _) | refine Up.trans ?_ (Hid.out (by assumption)))))) ?_
                    rintro e w5 ⟨v, rfl, ⟨A12, c12, rfl, r1, r2, r3, r4⟩, hu⟩
                    have HU5 := Lib.hid hu
                    have HS5 := Lib.hid (HS4.out.up (w' := w5) (by (repeat (first | exact Below.refl _ _ | exact Hid.out (by assumption) | refine Up.trans ?_ (Up.drew _) | refine Up.trans ?_ (Up.drewN _ _) | refine Up.trans ?_ (Up.alloc _ _) | refine Up.trans ?_ (Hid.out (by assumption))))))
                    have HRN := Lib.hid (And.intro r1 (And.intro r2 (And.intro r3 r4)))
                    have hf7 := HS5.out.frozen (1 + d)
                    obtain ⟨A13, m13, q13, hcell13, -⟩ := HS5.out.at_ hc10
                    rw [Nat.add_comm d 1] at hcell13
                    rw [HLN.out]
                    clear hu r1 r2 r3 r4))
                all_goals
                  have HST5 := Lib.hid (HS5.out.store hc10 (A := A12) (m := n + 1) (k := c12) (o := some (negR (primR p))) ⟨A12, c12, by rw [HLN.out], (by intro e; have := HLN.out; rw [e] at this; simp at this), HRN.out.1, HRN.out.2.1, HRN.out.2.2.1, fun b9 off9 e => by
                    have h8 : w4.heap.size ≤ b9 := HRN.out.2.2.2 b9 off9 e
                    have := HS4.out.lt
                    omega⟩)
                  rw [Nat.add_comm d 1, List.set_set] at HST5
                  have HUS5 : Hid (Up W0 (w5.setCell ⟨g, 1 + d, none⟩ (.slice A12 (n + 1) c12))) := Lib.hid (Below.setCell (p := ⟨g, 1 + d, none⟩) (HUS.out.trans (show Up w3 w5 by (repeat (first | exact Below.refl _ _ | exact Hid.out (by assumption) | refine Up.trans ?_ (Up.drew _) | refine Up.trans ?_ (Up.drewN _ _) | refine Up.trans ?_ (Up.alloc _ _) | refine Up.trans ?_ (Hid.out (by assumption)))))) hg _)
                  have HNX := Lib.hid (HNP.out _ (by rw [HPOS.out]; exact HST5.out) HUS5.out)
                  go_wp2_with fail
                  exact red_end hc ⟨_, HNX⟩
              · have hsy : y.sign = 1 := Int.sign_eq_one_of_pos (by have := HY0.out; omega)
                have HPOS : Hid (posR d (primR p) = primR p) := Lib.hid (by unfold posR; rw [← HY.out, if_neg hy0])
                have HNX := Lib.hid (HNP.out _ (by rw [HPOS.out]; exact HST.out.up HU4.out) (HUS.out.trans HU4.out))
                rw [hsy]
                clear hsy hy0 e0 e1 hbb11 hcell9 hf5
                go_wp2_with fail
                exact red_end hc ⟨_, HNX⟩
    · have HS1 := Lib.hid HR.out.sys
      have HEQ : Hid (redR (n + 1) S = T) := Lib.hid HR.out.same.symm
      have HUP := Lib.hid HR.out.up
      go_wp2
      refine bodyPost_end (by simp [results, Tryz.results127, go_sem]; try rfl) rfl ?_
      exact ⟨rfl, by rw [HEQ.out]; exact HS1.out, HUP.out⟩
end Go.Proofs.YtacbjbnocepnaaaGreatDoor
namespace Go.Proofs.YtacbjbnocepnaaaGreatDoor
open Go.RowKit Fm
def RdL (w : World) (A : Option Addr) (ls : List (List Int)) : Prop :=
  ls ≠ [] → ∃ b off, A = some ⟨b, off, none⟩ ∧ b < w.heap.size ∧ ∀ i (hi : i < ls.length), ∃ B c, w.cell? ⟨b, off + i, none⟩ = some (.slice B ls[i].length c) ∧ ls[i].length ≤ c ∧ c ≤ maxLen ∧ RdZ w B ls[i]
theorem RdL.up {w w' : World} {A : Option Addr} {ls : List (List Int)} (h : RdL w A ls) (hu : Up w w') : RdL w' A ls := fun hn => by
  obtain ⟨b, off, rfl, hb, hc⟩ := h hn
  refine ⟨b, off, rfl, Nat.lt_of_lt_of_le hb hu.size, fun i hi => ?_⟩
  obtain ⟨B, c, h1, h2, h3, h4⟩ := hc i hi
  exact ⟨B, c, (hu.cells.1 _ _ hb).trans h1, h2, h3, h4.up hu⟩
theorem RdL.at_ {w : World} {A : Option Addr} {ls : List (List Int)} (h : RdL w A ls) {i : Nat} (hi : i < ls.length) :
    ∃ b off B c, A = some ⟨b, off, none⟩ ∧ b < w.heap.size ∧ w.cell? ⟨b, off + i, none⟩ = some (.slice B ls[i].length c) ∧ ls[i].length ≤ c ∧ c ≤ maxLen ∧ RdZ w B ls[i] := by
  obtain ⟨b, off, rfl, hb, hc⟩ := h (by intro e; subst e; simp at hi)
  obtain ⟨B, c, h1, h2, h3, h4⟩ := hc i hi
  exact ⟨b, off, B, c, rfl, hb, h1, h2, h3, h4⟩
def SysV (w : World) (arr : Array Value) (n : Nat) (S : Sys) : Prop :=
  arr.size = 11 ∧ arr[0]? = some (.int .i64 n) ∧ S.length = 10 ∧ ∀ c, c < 10 → ∃ A m k, arr[c + 1]? = some (.slice A m k) ∧ ∀ g, w.heap.size ≤ g → PlaceV w g (.slice A m k) (S.getD c none)
def zeroSys (n : Int) : Array Value := #[.int .i64 n, .slice none 0 0, .slice none 0 0, .slice none 0 0, .slice none 0 0, .slice none 0 0, .slice none 0 0, .slice none 0 0, .slice none 0 0, .slice none 0 0, .slice none 0 0]
theorem SysB.new (w : World) (n : Nat) : SysB (w.alloc (.cells (zeroSys n) 93)) w.heap.size n (List.replicate 10 none) := by
  refine ⟨zeroSys n, heap_alloc_new w _, rfl, rfl, rfl, fun c hc => ⟨none, 0, 0, ?_, ?_⟩⟩
  · match c, hc with
    | 0, _ => rfl
    | 1, _ => rfl
    | 2, _ => rfl
    | 3, _ => rfl
    | 4, _ => rfl
    | 5, _ => rfl
    | 6, _ => rfl
    | 7, _ => rfl
    | 8, _ => rfl
    | 9, _ => rfl
  · have : (List.replicate 10 (none : Option (List Int))).getD c none = none := by
      rw [List.getD_eq_getElem?_getD, List.getElem?_replicate]; split <;> rfl
    rw [this]; rfl
theorem fold_ok (n K : Nat) (hn : n ≤ 9) : ∀ (ls : List (List Int)) (S : Sys), (∀ r, r ∈ ls → r.length = n + 1 ∧ Bd K r) → Ech n S → SB (grow K) S → Ech n (ls.foldl (fun S r => insR n (n + 1) S r) S) ∧ SB (grow K) (ls.foldl (fun S r => insR n (n + 1) S r) S) := by
  intro ls
  induction ls with
  | nil => intro S _ h1 h2; exact ⟨h1, h2⟩
  | cons r ls ih =>
    intro S hl h1 h2
    have hr := hl r (by simp)
    have hz : Zeros (n + 1 - (n + 1)) r := fun i hi => by omega
    have hb : Bd (grow K (n + 1 - (n + 1))) r := by rw [Nat.sub_self]; unfold grow; simpa using hr.2
    exact ih _ (fun q hq => hl q (by simp [hq])) (insR_ech n hn _ S r (Nat.le_refl _) h1 hr.1 hz) (insR_sb n K hn _ S r (Nat.le_refl _) h1 hr.1 hz h2 hb)
theorem sb_start (K : Nat) : SB (grow K) (List.replicate 10 none) := fun c r h => by
  simp only [List.getD_eq_getElem?_getD, List.getElem?_replicate] at h
  split at h <;> simp at h
def ZeroS (w : World) (g : Nat) : Prop := w.heap[g]? = some (.cells (zeroSys 0) 93 (0, 0))
theorem ZeroS.lt {w : World} {g : Nat} (h : ZeroS w g) : g < w.heap.size := by
  rcases Nat.lt_or_ge g w.heap.size with h1 | h1
  · exact h1
  · unfold ZeroS at h; rw [Array.getElem?_eq_none h1] at h; cases h
theorem ZeroS.up {w w' : World} {g : Nat} (h : ZeroS w g) (hu : Up w w') : ZeroS w' g := (hu.block g h.lt).trans h
structure SameBut (g : Nat) (w w' : World) : Prop where
  size : w.heap.size ≤ w'.heap.size
  cell : ∀ b o, b ≠ g → w'.cell? ⟨b, o, none⟩ = w.cell? ⟨b, o, none⟩
theorem SameBut.refl (g : Nat) (w : World) : SameBut g w w := ⟨Nat.le_refl _, fun _ _ _ => rfl⟩
theorem SameBut.set {g : Nat} {w w' : World} (h : SameBut g w w') (o : Nat) (u : Value) : SameBut g w (w'.setCell ⟨g, o, none⟩ u) :=
  ⟨by simpa [World.setCell] using h.size, fun b o' hb => by rw [World.cell?_setCell_other _ _ _ _ (by intro e; injection e with e; exact hb e.symm)]; exact h.cell b o' hb⟩
theorem IVp.same {w w' : World} {s : Int} {d : Value} {z : Int} {g : Nat} (h : IVp w s d z) (hg : ∀ j x : Nat, w.cell? ⟨g, j, none⟩ ≠ some (.int .u32 (x : Int))) (hs : SameBut g w w') : IVp w' s d z := by
  have hkey : ∀ ds, Sl .u32 w d ds → Sl .u32 w' d ds := by
    rintro ds ⟨A, c, rfl, h1, h2, h3⟩
    refine ⟨A, c, rfl, h1, h2, fun hn => ?_⟩
    obtain ⟨b, off, rfl, hb, hc⟩ := h3 hn
    have hne : b ≠ g := by
      rintro rfl
      exact hg _ _ (hc 0 (List.length_pos_iff.2 hn))
    exact ⟨b, off, rfl, Nat.lt_of_lt_of_le hb hs.size, fun i hi => (hs.cell _ _ hne).trans (hc i hi)⟩
  rcases h with ⟨h1, h2, h3⟩ | ⟨h1, h2, h3⟩
  · exact .inl ⟨h1, h2, hkey _ h3⟩
  · exact .inr ⟨h1, h2, hkey _ h3⟩
theorem RdZ.same {w w' : World} {A : Option Addr} {zs : List Int} {g : Nat} (h : RdZ w A zs) (ha : Away A g) (hg : ∀ j x : Nat, w.cell? ⟨g, j, none⟩ ≠ some (.int .u32 (x : Int))) (hs : SameBut g w w') : RdZ w' A zs := fun hn => by
  obtain ⟨b, off, rfl, hb, hc⟩ := h hn
  have hne := ha b off rfl
  refine ⟨b, off, rfl, Nat.lt_of_lt_of_le hb hs.size, fun i hi => ?_⟩
  obtain ⟨s, B, m, k, e1, e2, e3⟩ := hc i hi
  exact ⟨s, B, m, k, (hs.cell _ _ hne).trans e1, (hs.cell _ _ hne).trans e2, e3.same hg hs⟩
theorem ZeroS.cells {w : World} {g : Nat} (h : ZeroS w g) (j : Nat) : w.cell? ⟨g, j, none⟩ = (zeroSys 0)[j]? := by rw [cell_of_row w g j _ _ _ h]
theorem zeroSys_at (j : Nat) : (zeroSys 0)[j]? = some (.int .i64 0) ∨ (zeroSys 0)[j]? = some (.slice none 0 0) ∨ (zeroSys 0)[j]? = none := by
  match j with
  | 0 => exact .inl rfl
  | 1 => exact .inr (.inl rfl)
  | 2 => exact .inr (.inl rfl)
  | 3 => exact .inr (.inl rfl)
  | 4 => exact .inr (.inl rfl)
  | 5 => exact .inr (.inl rfl)
  | 6 => exact .inr (.inl rfl)
  | 7 => exact .inr (.inl rfl)
  | 8 => exact .inr (.inl rfl)
  | 9 => exact .inr (.inl rfl)
  | 10 => exact .inr (.inl rfl)
  | j + 11 => exact .inr (.inr (Array.getElem?_eq_none (by simp [zeroSys])))
theorem ZeroS.not_digit {w : World} {g : Nat} (h : ZeroS w g) (j x : Nat) : w.cell? ⟨g, j, none⟩ ≠ some (.int .u32 (x : Int)) := by
  rw [h.cells]
  rcases zeroSys_at j with e | e | e <;> rw [e]
  · intro e; injection e with e; injection e with e1 e2; cases e1
  · intro e; injection e with e; cases e
  · simp
theorem ZeroS.away {w : World} {g : Nat} (h : ZeroS w g) {A : Option Addr} {r : List Int} (hr : RdZ w A r) {c : Nat} (hc : r.getD c 0 ≠ 0) : Away A g := fun b off e => by
  rintro rfl
  have hlt : c < r.length := by
    rcases Nat.lt_or_ge c r.length with h1 | h1
    · exact h1
    · exact absurd (by rw [List.getD_eq_getElem?_getD, List.getElem?_eq_none h1]; rfl) hc
  obtain ⟨b2, off2, s, B, m, k, e2, -, h1, -, h3⟩ := hr.at_ hlt
  rw [e] at e2; cases e2
  have hrc : r[c] ≠ 0 := by rw [List.getD_eq_getElem?_getD, List.getElem?_eq_getElem hlt] at hc; exact hc
  rw [h.cells] at h1
  obtain ⟨s', d', e3, hp⟩ := h3
  simp only [Value.agg.injEq, Array.mk.injEq, List.cons.injEq, Value.int.injEq, true_and, and_true] at e3
  obtain ⟨rfl, rfl⟩ := e3
  rcases zeroSys_at (off + c * 2) with e | e | e <;> rw [e] at h1
  · injection h1 with h1; injection h1 with h4 h5
    rcases hp with ⟨_, h6, _⟩ | ⟨_, h6, _⟩
    · omega
    · exact hrc (Int.sign_eq_zero_iff_zero.1 (by omega))
  · injection h1 with h1; cases h1
  · cases h1
theorem SysB.copy {w wF : World} {g g0 n : Nat} {T : Sys} {arr : Array Value} (h : SysB w g n T) (hz : ZeroS w g0) (he : Ech n T) (hs : SameBut g0 w wF) (h0 : arr.size = 11) (ha : ∀ j, j < 11 → w.cell? ⟨g, j, none⟩ = arr[j]?) : SysV wF arr n T := by
  refine ⟨h0, by rw [← ha 0 (by omega)]; exact h.cell0, he.1, fun c hc => ?_⟩
  obtain ⟨A, m, k, e1, e2⟩ := h.at_ hc
  refine ⟨A, m, k, by rw [← ha (c + 1) (by omega)]; exact e1, fun g' hg' => ?_⟩
  cases hT : T.getD c none with
  | none => rw [hT] at e2; exact e2
  | some r =>
    rw [hT] at e2
    obtain ⟨A', c', h1, h2, h3, h4, h5, h6⟩ := e2
    have haw := hz.away h5 (he.2 c r hT).at_
    have hr5 := h5.same haw hz.not_digit hs
    refine ⟨A', c', h1, h2, h3, h4, hr5, fun b off e => ?_⟩
    obtain ⟨b2, off2, e7, hb2, -⟩ := hr5 h2
    rw [e] at e7; cases e7
    omega
def put11 (w : World) (g : Nat) (v0 v1 v2 v3 v4 v5 v6 v7 v8 v9 v10 : Value) : World := (((((((((((w).setCell ⟨g, 0, none⟩ v0).setCell ⟨g, 1, none⟩ v1).setCell ⟨g, 2, none⟩ v2).setCell ⟨g, 3, none⟩ v3).setCell ⟨g, 4, none⟩ v4).setCell ⟨g, 5, none⟩ v5).setCell ⟨g, 6, none⟩ v6).setCell ⟨g, 7, none⟩ v7).setCell ⟨g, 8, none⟩ v8).setCell ⟨g, 9, none⟩ v9).setCell ⟨g, 10, none⟩ v10
theorem set_heap {w : World} {g : Nat} {arr : Array Value} {t : TypeId} (h : w.heap[g]? = some (.cells arr t (0, 0))) (i : Nat) (u : Value) : (w.setCell ⟨g, i, none⟩ u).heap[g]? = some (.cells (arr.setIfInBounds i u) t (0, 0)) := by
  simp [World.setCell, Array.getElem?_modify, h]
theorem put11_heap {w : World} {g : Nat} (h : ZeroS w g) (v0 v1 v2 v3 v4 v5 v6 v7 v8 v9 v10 : Value) : (put11 w g v0 v1 v2 v3 v4 v5 v6 v7 v8 v9 v10).heap[g]? = some (.cells #[v0, v1, v2, v3, v4, v5, v6, v7, v8, v9, v10] 93 (0, 0)) := by
  have h0 : w.heap[g]? = some (.cells #[.int .i64 0, .slice none 0 0, .slice none 0 0, .slice none 0 0, .slice none 0 0, .slice none 0 0, .slice none 0 0, .slice none 0 0, .slice none 0 0, .slice none 0 0, .slice none 0 0] 93 (0, 0)) := h
  have h1 := set_heap h0 0 v0
  simp only [List.setIfInBounds_toArray, List.set_cons_zero] at h1
  have h2 := set_heap h1 1 v1
  simp only [List.setIfInBounds_toArray, List.set_cons_zero, List.set_cons_succ] at h2
  have h3 := set_heap h2 2 v2
  simp only [List.setIfInBounds_toArray, List.set_cons_zero, List.set_cons_succ] at h3
  have h4 := set_heap h3 3 v3
  simp only [List.setIfInBounds_toArray, List.set_cons_zero, List.set_cons_succ] at h4
  have h5 := set_heap h4 4 v4
  simp only [List.setIfInBounds_toArray, List.set_cons_zero, List.set_cons_succ] at h5
  have h6 := set_heap h5 5 v5
  simp only [List.setIfInBounds_toArray, List.set_cons_zero, List.set_cons_succ] at h6
  have h7 := set_heap h6 6 v6
  simp only [List.setIfInBounds_toArray, List.set_cons_zero, List.set_cons_succ] at h7
  have h8 := set_heap h7 7 v7
  simp only [List.setIfInBounds_toArray, List.set_cons_zero, List.set_cons_succ] at h8
  have h9 := set_heap h8 8 v8
  simp only [List.setIfInBounds_toArray, List.set_cons_zero, List.set_cons_succ] at h9
  have h10 := set_heap h9 9 v9
  simp only [List.setIfInBounds_toArray, List.set_cons_zero, List.set_cons_succ] at h10
  have h11 := set_heap h10 10 v10
  simp only [List.setIfInBounds_toArray, List.set_cons_zero, List.set_cons_succ] at h11
  exact h11
theorem put11_same (w : World) (g : Nat) (v0 v1 v2 v3 v4 v5 v6 v7 v8 v9 v10 : Value) : SameBut g w (put11 w g v0 v1 v2 v3 v4 v5 v6 v7 v8 v9 v10) :=
  (((((((((((SameBut.refl g w).set 0 v0).set 1 v1).set 2 v2).set 3 v3).set 4 v4).set 5 v5).set 6 v6).set 7 v7).set 8 v8).set 9 v9).set 10 v10
theorem Up.put11 {w0 w : World} {g : Nat} (h : Up w0 w) (hg : w0.heap.size ≤ g) (v0 v1 v2 v3 v4 v5 v6 v7 v8 v9 v10 : Value) : Up w0 (put11 w g v0 v1 v2 v3 v4 v5 v6 v7 v8 v9 v10) :=
  Below.setCell (p := ⟨g, 10, none⟩) (Below.setCell (p := ⟨g, 9, none⟩) (Below.setCell (p := ⟨g, 8, none⟩) (Below.setCell (p := ⟨g, 7, none⟩) (Below.setCell (p := ⟨g, 6, none⟩) (Below.setCell (p := ⟨g, 5, none⟩) (Below.setCell (p := ⟨g, 4, none⟩) (Below.setCell (p := ⟨g, 3, none⟩) (Below.setCell (p := ⟨g, 2, none⟩) (Below.setCell (p := ⟨g, 1, none⟩) (Below.setCell (p := ⟨g, 0, none⟩) (h) hg v0) hg v1) hg v2) hg v3) hg v4) hg v5) hg v6) hg v7) hg v8) hg v9) hg v10
theorem put11_cell {w : World} {g : Nat} (h : ZeroS w g) (v0 v1 v2 v3 v4 v5 v6 v7 v8 v9 v10 : Value) : (put11 w g v0 v1 v2 v3 v4 v5 v6 v7 v8 v9 v10).cell? ⟨g, 0, none⟩ = some v0 ∧ (put11 w g v0 v1 v2 v3 v4 v5 v6 v7 v8 v9 v10).cell? ⟨g, 1, none⟩ = some v1 ∧ (put11 w g v0 v1 v2 v3 v4 v5 v6 v7 v8 v9 v10).cell? ⟨g, 2, none⟩ = some v2 ∧ (put11 w g v0 v1 v2 v3 v4 v5 v6 v7 v8 v9 v10).cell? ⟨g, 3, none⟩ = some v3 ∧ (put11 w g v0 v1 v2 v3 v4 v5 v6 v7 v8 v9 v10).cell? ⟨g, 4, none⟩ = some v4 ∧ (put11 w g v0 v1 v2 v3 v4 v5 v6 v7 v8 v9 v10).cell? ⟨g, 5, none⟩ = some v5 ∧ (put11 w g v0 v1 v2 v3 v4 v5 v6 v7 v8 v9 v10).cell? ⟨g, 6, none⟩ = some v6 ∧ (put11 w g v0 v1 v2 v3 v4 v5 v6 v7 v8 v9 v10).cell? ⟨g, 7, none⟩ = some v7 ∧ (put11 w g v0 v1 v2 v3 v4 v5 v6 v7 v8 v9 v10).cell? ⟨g, 8, none⟩ = some v8 ∧ (put11 w g v0 v1 v2 v3 v4 v5 v6 v7 v8 v9 v10).cell? ⟨g, 9, none⟩ = some v9 ∧ (put11 w g v0 v1 v2 v3 v4 v5 v6 v7 v8 v9 v10).cell? ⟨g, 10, none⟩ = some v10 := by
  have hh := put11_heap h v0 v1 v2 v3 v4 v5 v6 v7 v8 v9 v10
  exact ⟨by rw [cell_of_row _ g 0 _ _ _ hh]; rfl, by rw [cell_of_row _ g 1 _ _ _ hh]; rfl, by rw [cell_of_row _ g 2 _ _ _ hh]; rfl, by rw [cell_of_row _ g 3 _ _ _ hh]; rfl, by rw [cell_of_row _ g 4 _ _ _ hh]; rfl, by rw [cell_of_row _ g 5 _ _ _ hh]; rfl, by rw [cell_of_row _ g 6 _ _ _ hh]; rfl, by rw [cell_of_row _ g 7 _ _ _ hh]; rfl, by rw [cell_of_row _ g 8 _ _ _ hh]; rfl, by rw [cell_of_row _ g 9 _ _ _ hh]; rfl, by rw [cell_of_row _ g 10 _ _ _ hh]; rfl⟩
set_option maxHeartbeats 4000000 in
set_option maxRecDepth 10000 in
theorem systemOf_any (A : Option Addr) (c n K : Nat) (ls : List (List Int)) (w : World) (hn : n ≤ 9) (hK : K ≤ 60) (hc : ls.length ≤ c) (hcm : c ≤ maxLen) (hl : ∀ r, r ∈ ls → r.length = n + 1 ∧ Bd K r) (hr : RdL w A ls) (ht : Tab w) :
    Calls Tryz.prog 95 #[.int .i64 n, .slice A ls.length c] w fun e w' => ∃ arr, e = .returned (.agg arr) ∧ SysV w' arr n (sysR n ls) ∧ Up w w' := by
  have hlen : ls.length ≤ 9223372036854775807 := Nat.le_trans hc hcm
  have HS0 := Lib.hid (SysB.new (w.alloc (.cells (zeroSys 0) 93)) n)
  have HZ0 : Hid (ZeroS (w.alloc (.cells (zeroSys 0) 93)) w.heap.size) := Lib.hid (heap_alloc_new w _)
  have HU0 := Lib.hid (Up.alloc w (.cells (zeroSys 0) 93))
  have HU1 := Lib.hid (Up.alloc (w.alloc (.cells (zeroSys 0) 93)) (.cells (zeroSys n) 93))
  have HSZ := Lib.hid (size_alloc w (.cells (zeroSys 0) 93))
  rw [size_alloc] at HS0
  clear hc hcm
  go_enter Tryz.func95, Tryz.ntmps95
  go_wp2
  obtain ⟨wA, hwA⟩ : ∃ wA, wA = w.alloc (.cells (zeroSys 0) 93) := ⟨_, rfl⟩
  obtain ⟨wB, hwB⟩ : ∃ wB, wB = wA.alloc (.cells (zeroSys n) 93) := ⟨_, rfl⟩
  have hwC : (w.alloc (.cells (zeroSys 0) 93)).alloc (.cells (zeroSys n) 93) = wB := by rw [hwB, hwA]
  unfold zeroSys at hwC
  rw [hwC]
  rw [← hwA] at HS0 HZ0 HU0 HU1 HSZ
  rw [← hwB] at HS0 HU1
  clear hwA hwB hwC
  obtain ⟨g, hg⟩ : ∃ g, g = w.heap.size + 1 := ⟨_, rfl⟩
  rw [← hg] at HS0 ⊢
  have HG := Lib.hid (show wA.heap.size ≤ g by have := HSZ.out; omega)
  have HGW := Lib.hid (show w.heap.size ≤ g by omega)
  clear hg
  obtain ⟨g0, hg0⟩ : ∃ g0, g0 = w.heap.size := ⟨_, rfl⟩
  rw [← hg0] at HZ0 ⊢
  have HG0 := Lib.hid (show w.heap.size ≤ g0 by omega)
  clear hg0
  go_loopw [12] (fun i wr => ∃ k : Nat, k ≤ ls.length ∧ i = .int .i64 k ∧ Hid (SysB wr g n ((ls.take k).foldl (fun S r => insR n (n + 1) S r) (List.replicate 10 none))) ∧ Hid (Up wA wr)) (fun i _ => ls.length - (intOf i).toNat)
  case atStart => exact ⟨0, by omega, rfl, HS0, HU1⟩
  case round =>
    obtain ⟨k, hk, rfl, HS, HU⟩ := hrel
    obtain ⟨S, hSe⟩ : ∃ S, S = (ls.take k).foldl (fun S r => insR n (n + 1) S r) (List.replicate 10 none) := ⟨_, rfl⟩
    have hok := fold_ok n K hn (ls.take k) (List.replicate 10 none) (fun r hr => hl r (List.mem_of_mem_take hr)) (startR n) (sb_start K)
    rw [← hSe] at hok HS
    have HOK := Lib.hid hok
    clear hok
    by_cases hkl : k < ls.length
    · obtain ⟨b, off, B, c', rfl, hbb, hcell0, h1, h2, h3⟩ := hr.at_ hkl
      have hwr := HU0.out.trans HU.out
      have hcell : wr.cell? ⟨b, off + k, none⟩ = some (.slice B ls[k].length c') := (hwr.cells.1 _ _ hbb).trans hcell0
      have hbr := Nat.lt_of_lt_of_le hbb hwr.size
      have hrr := hl ls[k] (List.getElem_mem hkl)
      have HNEXT : Hid ((ls.take (k + 1)).foldl (fun S r => insR n (n + 1) S r) (List.replicate 10 none) = insR n (n + 1) S ls[k]) := Lib.hid (by
        rw [List.take_succ_eq_append_getElem hkl, List.foldl_append, ← hSe]; rfl)
      have haw : Away B g := fun b' off' e => by
        obtain ⟨b2, off2, e2, hb2, -⟩ := h3 (by intro e; rw [e] at hrr; simp at hrr)
        rw [e] at e2; cases e2
        have := HGW.out; omega
      have HIN := Lib.hid (fun W (hu : Up wr W) => sysInsert_any g n K S B c' ls[k] W hn hK HOK.out.1 HOK.out.2 hrr.1 hrr.2 (HS.out.up hu) h1 h2 (h3.up (hwr.trans hu)) haw (ht.up (hwr.trans hu)))
      have HLK : Hid (ls[k].length = n + 1) := Lib.hid hrr.1
      have hl2 := HS.out.lt
      rw [HLK.out] at HIN hcell
      generalize ls[k] = r at *
      clear hSe hcell0 hwr hrr haw h1 h2 h3
      go_wp2_with fail
      refine Calls.mono (HIN.out _ (Up.refl _)) ?_
      rintro e w2 ⟨rfl, hs2, hg2⟩
      have HS2 := Lib.hid hs2
      have HU2 := Lib.hid (HU.out.grown hg2 HG.out)
      clear hs2 hg2 hcell
      go_wp2_with fail
      exact ⟨⟨k + 1, by omega, by simp, by rw [HNEXT.out]; exact HS2, HU2⟩, by simp [intOf]; omega⟩
    · have hke : k = ls.length := by omega
      subst hke
      rw [List.take_length] at hSe
      have HEQ : Hid (sysR n ls = redR (n + 1) S) := Lib.hid (by unfold sysR; rw [← hSe])
      have HRD := Lib.hid (fun W (hu : Up wr W) => sysReduce_any g n 62463 S wA W hn (Nat.le_refl _) HOK.out.1 (fun i r hi => (HOK.out.2 i r hi).mono (grow_le hK (by have := (HOK.out.1.2 i r hi).le; omega))) (HS.out.up hu) (HU.out.trans hu) HG.out (ht.up HU0.out))
      clear hSe
      go_wp2_with fail
      refine Calls.mono (HRD.out _ (Up.refl _)) ?_
      rintro e w2 ⟨rfl, hs2, hu2⟩
      have HS2 := Lib.hid hs2
      have HU2 := Lib.hid hu2
      have HZ2 := Lib.hid (HZ0.out.up hu2)
      rw [← HEQ.out] at HS2
      clear hs2 hu2 HRD
      have HECH : Hid (Ech n (sysR n ls)) := Lib.hid (by rw [HEQ.out]; exact redR_ech n hn _ _ (Nat.le_refl _) HOK.out.1)
      clear HEQ
      obtain ⟨T, hT⟩ : ∃ T, T = sysR n ls := ⟨_, rfl⟩
      rw [← hT] at HS2 HECH
      have HTE := Lib.hid hT
      clear hT
      have y := HS2.out.cell0
      have lg := HS2.out.lt
      obtain ⟨A0, m0, k0, x0, z0⟩ := HS2.out.at_ (c := 0) (by omega)
      obtain ⟨A1, m1, k1, x1, z1⟩ := HS2.out.at_ (c := 1) (by omega)
      obtain ⟨A2, m2, k2, x2, z2⟩ := HS2.out.at_ (c := 2) (by omega)
      obtain ⟨A3, m3, k3, x3, z3⟩ := HS2.out.at_ (c := 3) (by omega)
      obtain ⟨A4, m4, k4, x4, z4⟩ := HS2.out.at_ (c := 4) (by omega)
      obtain ⟨A5, m5, k5, x5, z5⟩ := HS2.out.at_ (c := 5) (by omega)
      obtain ⟨A6, m6, k6, x6, z6⟩ := HS2.out.at_ (c := 6) (by omega)
      obtain ⟨A7, m7, k7, x7, z7⟩ := HS2.out.at_ (c := 7) (by omega)
      obtain ⟨A8, m8, k8, x8, z8⟩ := HS2.out.at_ (c := 8) (by omega)
      obtain ⟨A9, m9, k9, x9, z9⟩ := HS2.out.at_ (c := 9) (by omega)
      have HP := Lib.hid (And.intro z0 (And.intro z1 (And.intro z2 (And.intro z3 (And.intro z4 (And.intro z5 (And.intro z6 (And.intro z7 (And.intro z8 z9)))))))))
      simp only [Nat.reduceAdd] at x0 x1 x2 x3 x4 x5 x6 x7 x8 x9
      have q0 := HZ2.out.cells 0
      have f0 : w2.frozen? ⟨g0, 0, none⟩ = false := by have := HZ2.out; unfold ZeroS at this; simp [World.frozen?, this]
      have q1 := HZ2.out.cells 1
      have f1 : w2.frozen? ⟨g0, 1, none⟩ = false := by have := HZ2.out; unfold ZeroS at this; simp [World.frozen?, this]
      have q2 := HZ2.out.cells 2
      have f2 : w2.frozen? ⟨g0, 2, none⟩ = false := by have := HZ2.out; unfold ZeroS at this; simp [World.frozen?, this]
      have q3 := HZ2.out.cells 3
      have f3 : w2.frozen? ⟨g0, 3, none⟩ = false := by have := HZ2.out; unfold ZeroS at this; simp [World.frozen?, this]
      have q4 := HZ2.out.cells 4
      have f4 : w2.frozen? ⟨g0, 4, none⟩ = false := by have := HZ2.out; unfold ZeroS at this; simp [World.frozen?, this]
      have q5 := HZ2.out.cells 5
      have f5 : w2.frozen? ⟨g0, 5, none⟩ = false := by have := HZ2.out; unfold ZeroS at this; simp [World.frozen?, this]
      have q6 := HZ2.out.cells 6
      have f6 : w2.frozen? ⟨g0, 6, none⟩ = false := by have := HZ2.out; unfold ZeroS at this; simp [World.frozen?, this]
      have q7 := HZ2.out.cells 7
      have f7 : w2.frozen? ⟨g0, 7, none⟩ = false := by have := HZ2.out; unfold ZeroS at this; simp [World.frozen?, this]
      have q8 := HZ2.out.cells 8
      have f8 : w2.frozen? ⟨g0, 8, none⟩ = false := by have := HZ2.out; unfold ZeroS at this; simp [World.frozen?, this]
      have q9 := HZ2.out.cells 9
      have f9 : w2.frozen? ⟨g0, 9, none⟩ = false := by have := HZ2.out; unfold ZeroS at this; simp [World.frozen?, this]
      have q10 := HZ2.out.cells 10
      have f10 : w2.frozen? ⟨g0, 10, none⟩ = false := by have := HZ2.out; unfold ZeroS at this; simp [World.frozen?, this]
      simp only [zeroSys] at q0 q1 q2 q3 q4 q5 q6 q7 q8 q9 q10
      simp at q0 q1 q2 q3 q4 q5 q6 q7 q8 q9 q10
      have lg0 := HZ2.out.lt
      clear z0 z1 z2 z3 z4 z5 z6 z7 z8 z9
      go_wp2
      have HPC := Lib.hid (put11_cell HZ2.out (.int .i64 n) (.slice A0 m0 k0) (.slice A1 m1 k1) (.slice A2 m2 k2) (.slice A3 m3 k3) (.slice A4 m4 k4) (.slice A5 m5 k5) (.slice A6 m6 k6) (.slice A7 m7 k7) (.slice A8 m8 k8) (.slice A9 m9 k9))
      have HPU := Lib.hid (Up.put11 (HU0.out.trans HU2.out) HG0.out (.int .i64 n) (.slice A0 m0 k0) (.slice A1 m1 k1) (.slice A2 m2 k2) (.slice A3 m3 k3) (.slice A4 m4 k4) (.slice A5 m5 k5) (.slice A6 m6 k6) (.slice A7 m7 k7) (.slice A8 m8 k8) (.slice A9 m9 k9))
      have HPS := Lib.hid (put11_same w2 g0 (.int .i64 n) (.slice A0 m0 k0) (.slice A1 m1 k1) (.slice A2 m2 k2) (.slice A3 m3 k3) (.slice A4 m4 k4) (.slice A5 m5 k5) (.slice A6 m6 k6) (.slice A7 m7 k7) (.slice A8 m8 k8) (.slice A9 m9 k9))
      obtain ⟨wF, hwF⟩ : ∃ wF, wF = put11 w2 g0 (.int .i64 n) (.slice A0 m0 k0) (.slice A1 m1 k1) (.slice A2 m2 k2) (.slice A3 m3 k3) (.slice A4 m4 k4) (.slice A5 m5 k5) (.slice A6 m6 k6) (.slice A7 m7 k7) (.slice A8 m8 k8) (.slice A9 m9 k9) := ⟨_, rfl⟩
      rw [← hwF] at HPC HPU HPS
      have HPV : Hid (SysV wF #[.int .i64 n, .slice A0 m0 k0, .slice A1 m1 k1, .slice A2 m2 k2, .slice A3 m3 k3, .slice A4 m4 k4, .slice A5 m5 k5, .slice A6 m6 k6, .slice A7 m7 k7, .slice A8 m8 k8, .slice A9 m9 k9] n T) := Lib.hid (HS2.out.copy HZ2.out HECH.out HPS.out rfl (fun j hj => by
        match j, hj with
        | 0, _ => exact y
        | 1, _ => exact x0
        | 2, _ => exact x1
        | 3, _ => exact x2
        | 4, _ => exact x3
        | 5, _ => exact x4
        | 6, _ => exact x5
        | 7, _ => exact x6
        | 8, _ => exact x7
        | 9, _ => exact x8
        | 10, _ => exact x9))
      unfold put11 at hwF
      rw [← hwF]
      clear hwF
      obtain ⟨r0, r1, r2, r3, r4, r5, r6, r7, r8, r9, r10⟩ := HPC.out
      refine bodyPost_ret (by simp [results, Tryz.results95, go_sem, r0, r1, r2, r3, r4, r5, r6, r7, r8, r9, r10]; try rfl) rfl ?_
      exact ⟨_, rfl, by rw [← HTE.out]; exact HPV.out, HPU.out⟩
end Go.Proofs.YtacbjbnocepnaaaGreatDoor
namespace Go.Proofs.YtacbjbnocepnaaaGreatDoor
open Go.RowKit Fm
def NoDig (u : Value) : Prop := ∀ x : Nat, u ≠ .int .u32 (x : Int)
theorem NoDig.int (x : Int) : NoDig (.int .i64 x) := fun y e => by injection e with e1 e2; cases e1
theorem NoDig.slice (A : Option Addr) (n c : Nat) : NoDig (.slice A n c) := fun y e => by cases e
theorem NoDig.bool (b : Bool) : NoDig (.bool b) := fun y e => by cases e
def NoDigs (w : World) (o : Option Nat) : Prop := ∀ g, o = some g → ∀ j x : Nat, w.cell? ⟨g, j, none⟩ ≠ some (.int .u32 (x : Int))
theorem nodig_heap {w : World} {g : Nat} {arr : Array Value} {t : TypeId} (h : w.heap[g]? = some (.cells arr t (0, 0))) (ha : ∀ u ∈ arr.toList, NoDig u) : ∀ j x : Nat, w.cell? ⟨g, j, none⟩ ≠ some (.int .u32 (x : Int)) := by
  intro j x
  rw [cell_of_row w g j _ _ _ h]
  intro e
  have : (Value.int .u32 (x : Int)) ∈ arr.toList := by
    rw [← Array.getElem?_toList] at e
    exact List.mem_of_getElem? e
  exact ha _ this x rfl
theorem nodig_zero {z : Array Value} (hz : 0 < z.size) (h : ∀ u ∈ z.toList, NoDig u) (k : Nat) : ∀ u ∈ (Builtin.zeroCells z k).toList, NoDig u := by
  intro u hu
  unfold Builtin.zeroCells at hu
  simp only [Array.toList_map, List.mem_map] at hu
  obtain ⟨i, -, rfl⟩ := hu
  have hi : i % z.size < z.size := Nat.mod_lt _ hz
  rw [getElem!_pos z (i % z.size) hi]
  exact h _ (by simp)
theorem run_push (w : World) (base : Nat) (t ty e : TypeId) (i : TypeInfo) (z : Value) (size bytes : Nat) (ht : Tryz.prog.underlying t = some (.slice e)) (hi : Tryz.prog.info? e = some i) (hz : i.zero = some z)
    (hsize : i.size = size) (hby : i.bytes = bytes) (hzs : z.cells.size = size) (hsz : 0 < size)
    (v : Value) (n : Nat) (xs : List Value) (hown : w.ownsRow base e size v n xs) (hnd : NoDigs w v.ownBlock)
    (a : Addr) (c : Nat) (news : List Value) (hl : news.length = size) (hnews : ∀ j u, news[j]? = some u → w.cell? (a.add j) = some u) (h1 : ∀ u ∈ news, u.oneCell' = true)
    (hnn : ∀ u ∈ news, NoDig u) (hzz : ∀ u ∈ z.cells.toList, NoDig u) (h63 : n + 1 ≤ maxLen) (hbytes : (n + 1) * bytes ≤ 140737488355328) (hbase : base ≤ w.heap.size) :
    ∃ v' w', (Builtin.append_ #[t, t] ty #[v, .slice (some a) 1 c]).run Tryz.prog w = .ok v' w' ∧ w'.ownsRow base e size v' (n + 1) (xs ++ news) ∧ w.grownBy w' v.ownBlock ∧ NoDigs w' v'.ownBlock ∧ (v'.ownBlock = v.ownBlock ∨ (v'.ownBlock = some w.heap.size ∧ w.grownBy w' (some w.heap.size))) := by
  have hl1 : news.length = 1 * size := by omega
  obtain ⟨v', w', hr, h2, h3, -⟩ := run_append_own (P := Tryz.prog) w base t ty e i z size bytes ht hi hz hsize hby hzs hsz v n xs hown a 1 c news hl1 hnews h1 h63 hbytes hbase
  refine ⟨v', w', hr, h2, h3, ?_⟩
  have hsmall : n + 1 ≤ 9223372036854775807 := by simp only [maxLen] at h63; omega
  subst hsize
  subst hby
  rcases hown.2 with ⟨rfl, rfl⟩ | ⟨g, cap, cur, rfl, hbg, hg, hnc, hcm, hcs, htake⟩
  · have hr2 := run_append_nil (P := Tryz.prog) w t ty e i z ht hi hz a 1 c news hl1 hnews (by omega) (by omega) (by omega)
    rw [hr2] at hr
    injection hr with e1 e2
    subst e1; subst e2
    refine ⟨fun g hg => ?_, .inr ⟨rfl, rfl, rfl, rfl, by simp, fun k hk _ => heap_alloc_old w.drew _ hk⟩⟩
    cases hg
    refine nodig_heap (heap_alloc_new w.drew _) fun u hu => ?_
    simp only [Array.toList_append, List.mem_append] at hu
    rcases hu with hu | hu
    · exact hnn u hu
    · exact nodig_zero (by rw [hzs]; exact hsz) hzz _ u hu
  · by_cases hroom : n + 1 ≤ cap
    · have hfit : n * i.size + news.length ≤ cur.size := by rw [hl1, hcs, ← Nat.add_mul]; exact Nat.mul_le_mul_right _ hroom
      have hr2 := run_append_room (P := Tryz.prog) w t ty e i ht hi g n cap cur hg a 1 c news hl1 hnews h1 hroom hfit
      rw [hr2] at hr
      injection hr with e1 e2
      subst e1; subst e2
      have hcur : ∀ u ∈ cur.toList, NoDig u := fun u hu => by
        obtain ⟨j, hj, rfl⟩ := List.mem_iff_getElem.1 hu
        intro x e
        refine hnd g rfl j x ?_
        rw [cell_of_row w g j _ _ _ hg, ← e]
        simp at hj
        rw [Array.getElem?_eq_getElem hj]; simp
      refine ⟨fun g' hg' => ?_, .inl rfl⟩
      cases hg'
      refine nodig_heap (setRow_heap w g cur _ e _ hg) fun u hu => ?_
      simp only [List.mem_append] at hu
      rcases hu with (hu | hu) | hu
      · exact hcur u (List.mem_of_mem_take hu)
      · exact hnn u hu
      · exact hcur u (List.mem_of_mem_drop hu)
    · have holds : ∀ j u, xs[j]? = some u → w.cell? ((⟨g, 0, none⟩ : Addr).add j) = some u := hown.cells (g := g) rfl
      have hr2 := run_append_grow (P := Tryz.prog) w t ty e i z ht hi hz ⟨g, 0, none⟩ n cap xs hown.1 holds a 1 c news hl1 hnews (by omega) (by omega) (growslice_fits (by omega) hbytes)
      rw [hr2] at hr
      injection hr with e1 e2
      subst e1; subst e2
      refine ⟨fun g' hg' => ?_, .inr ⟨rfl, rfl, rfl, rfl, by simp, fun k hk _ => heap_alloc_old w.drew _ hk⟩⟩
      cases hg'
      refine nodig_heap (heap_alloc_new w.drew _) fun u hu => ?_
      simp only [Array.toList_append, List.mem_append] at hu
      rcases hu with (hu | hu) | hu
      · have hm : u ∈ cur.toList := by rw [← htake] at hu; exact List.mem_of_mem_take (by simpa using hu)
        obtain ⟨j, hj, rfl⟩ := List.mem_iff_getElem.1 hm
        intro x e
        refine hnd g rfl j x ?_
        rw [cell_of_row w g j _ _ _ hg, ← e]
        simp at hj
        rw [Array.getElem?_eq_getElem hj]; simp
      · exact hnn u hu
      · exact nodig_zero (by rw [hzs]; exact hsz) hzz _ u hu
theorem IVp.grown {w w' : World} {s : Int} {d : Value} {z : Int} {o : Option Nat} (h : IVp w s d z) (hg : w.grownBy w' o) (hd : NoDigs w o) : IVp w' s d z := by
  have hkey : ∀ ds, Sl .u32 w d ds → Sl .u32 w' d ds := by
    rintro ds ⟨A, c, rfl, h1, h2, h3⟩
    refine ⟨A, c, rfl, h1, h2, fun hn => ?_⟩
    obtain ⟨b, off, rfl, hb, hc⟩ := h3 hn
    have hne : some b ≠ o := by
      intro e
      exact hd b e.symm _ _ (hc 0 (List.length_pos_iff.2 hn))
    exact ⟨b, off, rfl, Nat.lt_of_lt_of_le hb hg.size, fun i hi => hg.cell (hc i hi) hne⟩
  rcases h with ⟨h1, h2, h3⟩ | ⟨h1, h2, h3⟩
  · exact .inl ⟨h1, h2, hkey _ h3⟩
  · exact .inr ⟨h1, h2, hkey _ h3⟩
theorem RdZ.grown {w w' : World} {A : Option Addr} {zs : List Int} {o : Option Nat} (h : RdZ w A zs) (hg : w.grownBy w' o) (hd : NoDigs w o) (ha : ∀ g, o = some g → zs ≠ [] → Away A g) : RdZ w' A zs := fun hn => by
  obtain ⟨b, off, rfl, hb, hc⟩ := h hn
  have hne : some b ≠ o := fun e => ha b e.symm hn b off rfl rfl
  refine ⟨b, off, rfl, Nat.lt_of_lt_of_le hb hg.size, fun i hi => ?_⟩
  obtain ⟨s, B, m, k, e1, e2, e3⟩ := hc i hi
  exact ⟨s, B, m, k, hg.cell e1 hne, hg.cell e2 hne, e3.grown hg hd⟩
theorem add_zero_off (g k : Nat) : (⟨g, 0, none⟩ : Addr).add k = ⟨g, k, none⟩ := by
  by_cases h : k = 0
  · subst h; simp [Addr.add]
  · simp [Addr.add, h]
structure Elt (α : Type) where
  size : Nat
  rel : World → Option Nat → List Value → α → Prop
  pos : 0 < size
  len : ∀ {w o cs z}, rel w o cs z → cs.length = size
  one : ∀ {w o cs z}, rel w o cs z → ∀ u ∈ cs, u.oneCell' = true
  nod : ∀ {w o cs z}, rel w o cs z → ∀ u ∈ cs, NoDig u
  up : ∀ {w w' o cs z}, rel w o cs z → Up w w' → rel w' o cs z
  grow : ∀ {w w' o cs z}, rel w o cs z → w.grownBy w' o → NoDigs w o → rel w' o cs z
  move : ∀ {w o cs z}, rel w o cs z → rel w (some w.heap.size) cs z
def Elts {α : Type} (E : Elt α) (w : World) (o : Option Nat) : List (List Value) → List α → Prop
  | [], [] => True
  | cs :: css, z :: zs => E.rel w o cs z ∧ Elts E w o css zs
  | _, _ => False
section
variable {α : Type} {E : Elt α}
theorem Elts.map {w w' : World} {o o' : Option Nat} (hm : ∀ {cs z}, E.rel w o cs z → E.rel w' o' cs z) : ∀ {css : List (List Value)} {zs : List α}, Elts E w o css zs → Elts E w' o' css zs
  | [], [], _ => trivial
  | _ :: _, _ :: _, h => ⟨hm h.1, Elts.map hm h.2⟩
  | [], _ :: _, h => h.elim
  | _ :: _, [], h => h.elim
theorem Elts.length {w : World} {o : Option Nat} : ∀ {css : List (List Value)} {zs : List α}, Elts E w o css zs → css.length = zs.length
  | [], [], _ => rfl
  | _ :: _, _ :: _, h => by simp [Elts.length h.2]
  | [], _ :: _, h => h.elim
  | _ :: _, [], h => h.elim
theorem Elts.snoc {w : World} {o : Option Nat} {cs : List Value} {z : α} (hz : E.rel w o cs z) : ∀ {css : List (List Value)} {zs : List α}, Elts E w o css zs → Elts E w o (css ++ [cs]) (zs ++ [z])
  | [], [], _ => ⟨hz, trivial⟩
  | _ :: _, _ :: _, h => ⟨h.1, Elts.snoc hz h.2⟩
  | [], _ :: _, h => h.elim
  | _ :: _, [], h => h.elim
theorem Elts.cell {w : World} {o : Option Nat} : ∀ {css : List (List Value)} {zs : List α}, Elts E w o css zs → ∀ i (hi : i < zs.length), ∃ cs, E.rel w o cs zs[i] ∧ ∀ j, j < E.size → css.flatten[i * E.size + j]? = cs[j]?
  | [], [], _ => fun i hi => by simp at hi
  | cs :: css, z :: zs, h => fun i hi => by
    cases i with
    | zero =>
      refine ⟨cs, h.1, fun j hj => ?_⟩
      rw [List.flatten_cons, Nat.zero_mul, Nat.zero_add, List.getElem?_append_left (by rw [E.len h.1]; exact hj)]
    | succ i =>
      obtain ⟨cs', h1, h2⟩ := Elts.cell h.2 i (by simpa using hi)
      refine ⟨cs', h1, fun j hj => ?_⟩
      rw [List.flatten_cons, List.getElem?_append_right (by rw [E.len h.1, Nat.succ_mul]; omega), E.len h.1, ← h2 j hj]
      congr 1
      rw [Nat.succ_mul]; omega
  | [], _ :: _, h => h.elim
  | _ :: _, [], h => h.elim
end
def RdE {α : Type} (E : Elt α) (w : World) (A : Option Addr) (zs : List α) : Prop :=
  zs ≠ [] → ∃ b off, A = some ⟨b, off, none⟩ ∧ b < w.heap.size ∧ ∀ i (hi : i < zs.length), ∃ cs, E.rel w none cs zs[i] ∧ ∀ j u, cs[j]? = some u → w.cell? ⟨b, off + i * E.size + j, none⟩ = some u
theorem RdE.up {α : Type} {E : Elt α} {w w' : World} {A : Option Addr} {zs : List α} (h : RdE E w A zs) (hu : Up w w') : RdE E w' A zs := fun hn => by
  obtain ⟨b, off, rfl, hb, hc⟩ := h hn
  refine ⟨b, off, rfl, Nat.lt_of_lt_of_le hb hu.size, fun i hi => ?_⟩
  obtain ⟨cs, h1, h2⟩ := hc i hi
  exact ⟨cs, E.up h1 hu, fun j u hj => (hu.cells.1 _ _ hb).trans (h2 j u hj)⟩
theorem RdE.at_ {α : Type} {E : Elt α} {w : World} {A : Option Addr} {zs : List α} (h : RdE E w A zs) {i : Nat} (hi : i < zs.length) :
    ∃ b off cs, A = some ⟨b, off, none⟩ ∧ b < w.heap.size ∧ E.rel w none cs zs[i] ∧ ∀ j u, cs[j]? = some u → w.cell? ⟨b, off + i * E.size + j, none⟩ = some u := by
  obtain ⟨b, off, rfl, hb, hc⟩ := h (by intro e; subst e; simp at hi)
  obtain ⟨cs, h1, h2⟩ := hc i hi
  exact ⟨b, off, cs, rfl, hb, h1, h2⟩
def OwE {α : Type} (E : Elt α) (w0 w : World) (t : TypeId) (v : Value) (zs : List α) : Prop :=
  ∃ css, Elts E w v.ownBlock css zs ∧ w.ownsRow w0.heap.size t E.size v zs.length css.flatten ∧ NoDigs w v.ownBlock
theorem OwE.nil {α : Type} (E : Elt α) (w0 w : World) (t : TypeId) : OwE E w0 w t (.slice none 0 0) [] := ⟨[], trivial, World.ownsRow_nil _ _ _ _, fun g e => by cases e⟩
theorem ownsRow_up {w w' : World} {base size n : Nat} {e : TypeId} {v : Value} {xs : List Value} (h : w.ownsRow base e size v n xs) (hu : Up w w') : w'.ownsRow base e size v n xs := by
  obtain ⟨hl, h⟩ := h
  refine ⟨hl, ?_⟩
  rcases h with h | ⟨g, cap, cur, rfl, hb, hg, hle, hcm, hsz, htk⟩
  · exact .inl h
  · refine .inr ⟨g, cap, cur, rfl, hb, ?_, hle, hcm, hsz, htk⟩
    have hlt : g < w.heap.size := by
      rcases Nat.lt_or_ge g w.heap.size with hlt | hge
      · exact hlt
      · rw [Array.getElem?_eq_none hge] at hg; cases hg
    exact (hu.block g hlt).trans hg
theorem OwE.up {α : Type} {E : Elt α} {w0 w w' : World} {t : TypeId} {v : Value} {zs : List α} (h : OwE E w0 w t v zs) (hu : Up w w') : OwE E w0 w' t v zs := by
  obtain ⟨css, h1, h2, h3⟩ := h
  refine ⟨css, h1.map fun h => E.up h hu, ownsRow_up h2 hu, fun g hg j x => ?_⟩
  have hlt := (h2.lt g hg).2
  rw [hu.cells.1 _ _ hlt]
  exact h3 g hg j x
theorem wpList_pushE {α : Type} (E : Elt α) {w : World} {ops : Array Oper} {rest : List Oper} {o : Oper} {a : Act} {Q : Exit → Act → World → Prop} (w0 : World) (hgd : o.guard = none) (s x : Operand) (t e : TypeId)
    (ho : o.op = .call { callee := .builtin .append, args := #[s, x], argTypes := #[t, t] }) (z0 : Value) (bytes : Nat) (ht : Tryz.prog.underlying t = some (.slice e)) (hi : (Tryz.prog.info? e).map (fun i => (i.zero, i.size, i.bytes)) = some (some z0, E.size, bytes)) (hzs : z0.cells.size = E.size) (hzz : ∀ u ∈ z0.cells.toList, NoDig u) (hby : bytes ≤ 64)
    (v : Value) (zs : List α) (hs : a.eval s = v) (hown : OwE E w0 w e v zs) (hu : Up w0 w)
    (ad : Addr) (hx : a.eval x = .slice (some ad) 1 1) (cs : List Value) (z : α) (hcell : ∀ j u, cs[j]? = some u → w.cell? (ad.add j) = some u) (hrel : E.rel w v.ownBlock cs z) (hlen : zs.length ≤ 1000000000)
    (h : ∀ v' w', OwE E w0 w' e v' (zs ++ [z]) → Up w0 w' → wpList Tryz.prog ops Q rest (a.put o.dst v') w') : wpList Tryz.prog ops Q (o :: rest) a w := by
  obtain ⟨css, h1, h2, h3⟩ := hown
  obtain ⟨i0, hi0, hz0, hz1, hz2⟩ := info_parts hi
  have hbb : (zs.length + 1) * bytes ≤ 140737488355328 := by
    have : (zs.length + 1) * bytes ≤ 1000000001 * 64 := Nat.mul_le_mul (by omega) hby
    omega
  obtain ⟨v', w', hr, k1, k2, k3, k4⟩ := run_push w w0.heap.size t o.type e i0 z0 E.size bytes ht hi0 hz0 hz1 hz2 hzs E.pos v zs.length css.flatten h2 h3 ad 1 cs (E.len hrel) hcell (E.one hrel) (E.nod hrel) hzz (by unfold maxLen; omega) hbb hu.size
  have hE : Elts E w' v'.ownBlock (css ++ [cs]) (zs ++ [z]) := by
    have a1 : Elts E w v.ownBlock (css ++ [cs]) (zs ++ [z]) := h1.snoc hrel
    rcases k4 with e1 | ⟨e1, e2⟩
    · rw [e1]; exact a1.map fun h => E.grow h k2 h3
    · rw [e1]
      exact (a1.map (o' := some w.heap.size) fun h => E.move h).map fun h => E.grow h e2 fun g hg j x => by
        cases hg
        simp [World.cell?]
  have hO : OwE E w0 w' e v' (zs ++ [z]) := by
    refine ⟨css ++ [cs], hE, ?_, k3⟩
    rw [List.length_append, List.flatten_append]
    simpa using k1
  have hU : Up w0 w' := Below.grown hu k2 hu.size (fun k hk => (h2.lt k hk).1)
  refine wpList_plain hgd fun _ hK => ?_
  unfold Oper.wp execOp
  simp only [ho, resolve, invoke, builtin, Sem.run_bind, Sem.run_pure, Result.andThen_ok, List.map_toArray, List.map_cons, List.map_nil, hs, hx, hr]
  exact hK _ _ (h v' w' hO hU)
theorem OwE.read {α : Type} {E : Elt α} {w0 w : World} {t : TypeId} {v : Value} {zs : List α} (h : OwE E w0 w t v zs) (hm : ∀ {o cs z}, E.rel w o cs z → E.rel w none cs z) :
    ∃ A c, v = .slice A zs.length c ∧ zs.length ≤ c ∧ c ≤ maxLen ∧ RdE E w A zs ∧ ∀ b off, A = some ⟨b, off, none⟩ → w0.heap.size ≤ b := by
  obtain ⟨css, h1, h2, h3⟩ := h
  rcases h2.2 with ⟨rfl, hn⟩ | ⟨g, cap, cur, rfl, hb, hg, hle, hcm, hsz, htk⟩
  · have : zs = [] := List.eq_nil_of_length_eq_zero hn
    subst this
    exact ⟨none, 0, rfl, Nat.le_refl _, Nat.zero_le _, fun hn => absurd rfl hn, fun b off e => by cases e⟩
  · refine ⟨some ⟨g, 0, none⟩, cap, rfl, hle, hcm, fun _ => ⟨g, 0, rfl, (h2.lt g rfl).2, fun i hi => ?_⟩, fun b off e => by cases e; exact hb⟩
    obtain ⟨cs, k1, k2⟩ := h1.cell i hi
    refine ⟨cs, hm k1, fun j u hj => ?_⟩
    have hjl : j < E.size := by rw [← E.len k1]; exact (List.getElem?_eq_some_iff.1 hj).1
    have hc := h2.cells (g := g) rfl (i * E.size + j) u (by rw [k2 j hjl, hj])
    rw [Nat.zero_add]
    rw [add_zero_off] at hc
    exact hc
def eltZ : Elt Int where
  size := 2
  rel w _ cs z := ∃ s A n c, cs = [.int .i64 s, .slice A n c] ∧ IVp w s (.slice A n c) z
  pos := by decide
  len := by rintro w o cs z ⟨s, A, n, c, rfl, -⟩; rfl
  one := by rintro w o cs z ⟨s, A, n, c, rfl, -⟩ u hu; simp at hu; rcases hu with rfl | rfl <;> rfl
  nod := by
    rintro w o cs z ⟨s, A, n, c, rfl, -⟩ u hu
    simp at hu
    rcases hu with rfl | rfl
    · exact NoDig.int _
    · exact NoDig.slice _ _ _
  up := by rintro w w' o cs z ⟨s, A, n, c, rfl, h⟩ hu; exact ⟨s, A, n, c, rfl, h.up hu⟩
  grow := by
    rintro w w' o cs z ⟨s, A, n, c, rfl, h⟩ hg hd
    refine ⟨s, A, n, c, rfl, h.grown hg hd⟩
  move := fun h => h
end Go.Proofs.YtacbjbnocepnaaaGreatDoor
namespace Go.Proofs.YtacbjbnocepnaaaGreatDoor
open Go.RowKit Fm
theorem away_size {w : World} {A : Option Addr} {zs : List Int} (h : RdZ w A zs) (hn : zs ≠ []) : Away A w.heap.size := fun b off e => by
  obtain ⟨b2, off2, e2, hb, -⟩ := h hn
  rw [e] at e2; cases e2
  omega
def eltRow : Elt (List Int) where
  size := 1
  rel w o cs r := ∃ A c, cs = [.slice A r.length c] ∧ r.length ≤ c ∧ c ≤ maxLen ∧ RdZ w A r ∧ ∀ g, o = some g → r ≠ [] → Away A g
  pos := by decide
  len := by rintro w o cs z ⟨A, c, rfl, -⟩; rfl
  one := by rintro w o cs z ⟨A, c, rfl, -⟩ u hu; simp at hu; subst hu; rfl
  nod := by rintro w o cs z ⟨A, c, rfl, -⟩ u hu; simp at hu; subst hu; exact NoDig.slice _ _ _
  up := by rintro w w' o cs z ⟨A, c, rfl, h1, h2, h3, h4⟩ hu; exact ⟨A, c, rfl, h1, h2, h3.up hu, h4⟩
  grow := by rintro w w' o cs z ⟨A, c, rfl, h1, h2, h3, h4⟩ hg hd; exact ⟨A, c, rfl, h1, h2, h3.grown hg hd h4, h4⟩
  move := by
    rintro w o cs z ⟨A, c, rfl, h1, h2, h3, h4⟩
    exact ⟨A, c, rfl, h1, h2, h3, fun g hg hn => by cases hg; exact away_size h3 hn⟩
def RdI (w : World) (A : Option Addr) (xs : List Int) : Prop :=
  xs ≠ [] → ∃ b off, A = some ⟨b, off, none⟩ ∧ b < w.heap.size ∧ ∀ i (hi : i < xs.length), w.cell? ⟨b, off + i, none⟩ = some (.int .i64 xs[i])
theorem RdI.up {w w' : World} {A : Option Addr} {xs : List Int} (h : RdI w A xs) (hu : Up w w') : RdI w' A xs := fun hn => by
  obtain ⟨b, off, rfl, hb, hc⟩ := h hn
  exact ⟨b, off, rfl, Nat.lt_of_lt_of_le hb hu.size, fun i hi => (hu.cells.1 _ _ hb).trans (hc i hi)⟩
theorem RdI.at_ {w : World} {A : Option Addr} {xs : List Int} (h : RdI w A xs) {i : Nat} (hi : i < xs.length) : ∃ b off, A = some ⟨b, off, none⟩ ∧ b < w.heap.size ∧ w.cell? ⟨b, off + i, none⟩ = some (.int .i64 xs[i]) := by
  obtain ⟨b, off, rfl, hb, hc⟩ := h (by intro e; subst e; simp at hi)
  exact ⟨b, off, rfl, hb, hc i hi⟩
theorem RdI.grown {w w' : World} {A : Option Addr} {zs : List Int} {o : Option Nat} (h : RdI w A zs) (hg : w.grownBy w' o) (ha : ∀ g, o = some g → zs ≠ [] → Away A g) : RdI w' A zs := fun hn => by
  obtain ⟨b, off, rfl, hb, hc⟩ := h hn
  have hne : some b ≠ o := fun e => ha b e.symm hn b off rfl rfl
  exact ⟨b, off, rfl, Nat.lt_of_lt_of_le hb hg.size, fun i hi => hg.cell (hc i hi) hne⟩
theorem away_sizeI {w : World} {A : Option Addr} {zs : List Int} (h : RdI w A zs) (hn : zs ≠ []) : Away A w.heap.size := fun b off e => by
  obtain ⟨b2, off2, e2, hb, -⟩ := h hn
  rw [e] at e2; cases e2
  omega
def eltForm : Elt (List Int × Int) where
  size := 2
  rel w o cs f := ∃ A c, cs = [.slice A f.1.length c, .int .i64 f.2] ∧ f.1.length ≤ c ∧ c ≤ maxLen ∧ RdI w A f.1 ∧ ∀ g, o = some g → f.1 ≠ [] → Away A g
  pos := by decide
  len := by rintro w o cs z ⟨A, c, rfl, -⟩; rfl
  one := by rintro w o cs z ⟨A, c, rfl, -⟩ u hu; simp at hu; rcases hu with rfl | rfl <;> rfl
  nod := by
    rintro w o cs z ⟨A, c, rfl, -⟩ u hu
    simp at hu
    rcases hu with rfl | rfl
    · exact NoDig.slice _ _ _
    · exact NoDig.int _
  up := by rintro w w' o cs z ⟨A, c, rfl, h1, h2, h3, h4⟩ hu; exact ⟨A, c, rfl, h1, h2, h3.up hu, h4⟩
  grow := by rintro w w' o cs z ⟨A, c, rfl, h1, h2, h3, h4⟩ hg _; exact ⟨A, c, rfl, h1, h2, h3.grown hg h4, h4⟩
  move := by
    rintro w o cs z ⟨A, c, rfl, h1, h2, h3, h4⟩
    exact ⟨A, c, rfl, h1, h2, h3, fun g hg hn => by cases hg; exact away_sizeI h3 hn⟩
def eltI : Elt Int where
  size := 1
  rel _ _ cs x := cs = [.int .i64 x]
  pos := by decide
  len := by rintro w o cs z rfl; rfl
  one := by rintro w o cs z rfl u hu; simp at hu; subst hu; rfl
  nod := by rintro w o cs z rfl u hu; simp at hu; subst hu; exact NoDig.int _
  up := fun h _ => h
  grow := fun h _ _ => h
  move := fun h => h
def eltN : Elt (Int × Int) where
  size := 2
  rel _ _ cs q := cs = [.int .i64 q.1, .int .i64 q.2]
  pos := by decide
  len := by rintro w o cs z rfl; rfl
  one := by rintro w o cs z rfl u hu; simp at hu; rcases hu with rfl | rfl <;> rfl
  nod := by
    rintro w o cs z rfl u hu
    simp at hu
    rcases hu with rfl | rfl <;> exact NoDig.int _
  up := fun h _ => h
  grow := fun h _ _ => h
  move := fun h => h
theorem IV.elt {w w' : World} {s : Int} {A : Option Addr} {n c : Nat} {z : Int} {o : Option Nat} (h : IV w (.agg #[.int .i64 s, .slice A n c]) z) (hu : Up w w') : eltZ.rel w' o [.int .i64 s, .slice A n c] z := by
  obtain ⟨s', d', e, hp⟩ := h
  simp only [Value.agg.injEq, Array.mk.injEq, List.cons.injEq, Value.int.injEq, true_and, and_true] at e
  obtain ⟨rfl, rfl⟩ := e
  exact ⟨s, A, n, c, rfl, hp.up hu⟩
theorem RdE.z {w : World} {A : Option Addr} {zs : List Int} (h : RdE eltZ w A zs) : RdZ w A zs := fun hn => by
  obtain ⟨b, off, rfl, hb, hc⟩ := h hn
  refine ⟨b, off, rfl, hb, fun i hi => ?_⟩
  obtain ⟨cs, ⟨s, B, m, k, rfl, h3⟩, h2⟩ := hc i hi
  exact ⟨s, B, m, k, h2 0 _ rfl, h2 1 _ rfl, h3⟩
theorem RdE.i {w : World} {A : Option Addr} {zs : List Int} (h : RdE eltI w A zs) : RdI w A zs := fun hn => by
  obtain ⟨b, off, rfl, hb, hc⟩ := h hn
  refine ⟨b, off, rfl, hb, fun i hi => ?_⟩
  obtain ⟨cs, e, h2⟩ := hc i hi
  rw [show eltI.rel w none cs zs[i] = (cs = [.int .i64 zs[i]]) from rfl] at e
  subst e
  have := h2 0 _ rfl
  rw [show eltI.size = 1 from rfl, Nat.mul_one] at this
  exact this
theorem RdE.l {w : World} {A : Option Addr} {zs : List (List Int)} (h : RdE eltRow w A zs) : RdL w A zs := fun hn => by
  obtain ⟨b, off, rfl, hb, hc⟩ := h hn
  refine ⟨b, off, rfl, hb, fun i hi => ?_⟩
  obtain ⟨cs, ⟨B, c, rfl, h1, h3, h4, -⟩, h2⟩ := hc i hi
  have := h2 0 _ rfl
  rw [show eltRow.size = 1 from rfl, Nat.mul_one] at this
  exact ⟨B, c, this, h1, h3, h4⟩
theorem mkRow0 (n : Nat) (hn : n ≤ 4294967296) (w : World) : (Instr.makeSlice 90 (.int .i64 0) (.int .i64 (n : Int))).run Tryz.prog w =
    .ok (.slice (some ⟨w.heap.size, 0, none⟩) 0 n) (w.alloc (.cells (zeroRow n) 108)) := by
  obtain ⟨i0, hi, hz0, hz1, hz2⟩ := info_parts info_int
  have h := run_make (P := Tryz.prog) w 90 108 i0 (.agg #[.int .i64 0, .slice none 0 0]) Tryz.underlying90 hi hz0 .i64 .i64 0 n (by omega) (by omega) (by rw [hz2]; omega) (by omega)
  rw [h, hz1]; simp only [Int.toNat_natCast, Int.toNat_zero, zeroRow]
theorem zeroRow_nod (n : Nat) : ∀ u ∈ (zeroRow n).toList, NoDig u := by
  intro u hu
  obtain ⟨j, hj, rfl⟩ := List.mem_iff_getElem.1 hu
  simp only [Array.length_toList, zeroRow_size] at hj
  have h2 := zeroRow_get n (j / 2) (by omega)
  rw [Array.getElem_toList]
  rcases Nat.mod_two_eq_zero_or_one j with hm | hm
  · have e := h2.1
    rw [show j / 2 * 2 = j by omega, Array.getElem?_eq_getElem (by rw [zeroRow_size]; exact hj)] at e
    rw [Option.some.inj e]; exact NoDig.int _
  · have e := h2.2
    rw [show j / 2 * 2 + 1 = j by omega, Array.getElem?_eq_getElem (by rw [zeroRow_size]; exact hj)] at e
    rw [Option.some.inj e]; exact NoDig.slice _ _ _
theorem new_cells (w : World) (cs : List Value) (t : TypeId) (j : Nat) (u : Value) (h : cs[j]? = some u) : (w.alloc (.cells cs.toArray t)).cell? ((⟨w.heap.size, 0, none⟩ : Addr).add j) = some u := by
  rw [add_zero_off, cell_of_row _ w.heap.size j _ _ _ (heap_alloc_new w _)]
  simpa using h
theorem zint_nod : ∀ u ∈ (Value.agg #[.int .i64 0, .slice none 0 0]).cells.toList, NoDig u := by
  intro u hu
  simp [Value.cells] at hu
  rcases hu with rfl | rfl
  · exact NoDig.int _
  · exact NoDig.slice _ _ _
theorem OwE.made (w0 w : World) (n : Nat) (hn : n ≤ 4294967296) (hu : Up w0 w) : OwE eltZ w0 (w.alloc (.cells (zeroRow n) 108)) 108 (.slice (some ⟨w.heap.size, 0, none⟩) 0 n) [] :=
  ⟨[], trivial, World.ownsRow_made w (zeroRow n) n hu.size (by unfold maxLen; omega) (zeroRow_size n), fun g hg => by cases hg; exact nodig_heap (heap_alloc_new w _) (zeroRow_nod n)⟩
set_option maxHeartbeats 4000000 in
set_option maxRecDepth 10000 in
theorem rowOf_any (A : Option Addr) (c : Nat) (xs : List Int) (x : Int) (w : World) (hn : xs.length ≤ 100) (hr : RdI w A xs) (hx : ∀ y, y ∈ xs → -9223372036854775808 ≤ y ∧ y ≤ 9223372036854775807) (hx0 : -9223372036854775808 ≤ x ∧ x ≤ 9223372036854775807) :
    Calls Tryz.prog 77 #[.agg #[.slice A xs.length c, .int .i64 x]] w fun e w' => ∃ v, e = .returned v ∧ RowF w w' v (xs ++ [x]) ∧ Up w w' := by
  have HX0 := Lib.hid (fun W => of_any x W hx0.1 hx0.2)
  have hmk : ∀ W, (Instr.makeSlice 90 (.int .i64 0) (.int .i64 ((xs.length : Int) + 1))).run Tryz.prog W = .ok (.slice (some ⟨W.heap.size, 0, none⟩) 0 (xs.length + 1)) (W.alloc (.cells (zeroRow (xs.length + 1)) 108)) := fun W => by
    have := mkRow0 (xs.length + 1) (by omega) W
    simpa using this
  have HC0 : Hid ((w.alloc (.cells #[.slice A xs.length c, .int .i64 x] 28)).heap[w.heap.size]? = some (.cells #[.slice A xs.length c, .int .i64 x] 28 (0, 0))) := Lib.hid (heap_alloc_new w _)
  have HU0 := Lib.hid (Up.alloc w (.cells #[.slice A xs.length c, .int .i64 x] 28))
  have HU1 := Lib.hid (Up.alloc (w.alloc (.cells #[.slice A xs.length c, .int .i64 x] 28)) (.cells (zeroRow (xs.length + 1)) 108))
  have HO := Lib.hid (OwE.made (w.alloc (.cells #[.slice A xs.length c, .int .i64 x] 28)) (w.alloc (.cells #[.slice A xs.length c, .int .i64 x] 28)) (xs.length + 1) (by omega) (Up.refl _))
  rw [size_alloc] at HO
  clear hx0
  go_enter Tryz.func77, Tryz.ntmps77
  go_wp2
  clear hmk
  obtain ⟨wA, hwA⟩ : ∃ wA, wA = w.alloc (.cells #[.slice A xs.length c, .int .i64 x] 28) := ⟨_, rfl⟩
  rw [← hwA] at HC0 HU0 HU1 HO ⊢
  have HLT := Lib.hid (show w.heap.size < wA.heap.size by rw [hwA, size_alloc]; omega)
  clear hwA
  generalize wA.alloc (.cells (zeroRow (xs.length + 1)) 108) = wB at *
  obtain ⟨g0, hg0⟩ : ∃ g0, g0 = w.heap.size := ⟨_, rfl⟩
  rw [← hg0] at HC0 HO HLT ⊢
  have HGW := Lib.hid (show w.heap.size ≤ g0 by omega)
  clear hg0
  go_loopw [3, 14] (fun v i wr => ∃ k : Nat, k ≤ xs.length ∧ i = .int .i64 k ∧ Hid (OwE eltZ wA wr 108 v (xs.take k)) ∧ Hid (Up wA wr)) (fun _ i _ => xs.length - (intOf i).toNat)
  case atStart => exact ⟨0, by omega, rfl, HO, HU1⟩
  case round =>
    obtain ⟨i, hi, rfl, HOW, HU⟩ := hrel
    by_cases hil : i < xs.length
    · obtain ⟨b, off, rfl, hbb, c0⟩ := (hr.up (show Up w wr by (repeat (first | exact Below.refl _ _ | exact Hid.out (by assumption) | refine Up.trans ?_ (Up.drew _) | refine Up.trans ?_ (Up.drewN _ _) | refine Up.trans ?_ (Up.alloc _ _) | refine Up.trans ?_ (Hid.out (by assumption)))))).at_ hil
      have hxi := hx xs[i] (List.getElem_mem hil)
      have HNEXT : Hid (xs.take (i + 1) = xs.take i ++ [xs[i]]) := Lib.hid (by rw [List.take_succ_eq_append_getElem hil])
      generalize xs[i] = y at *
      have HOF := Lib.hid (fun W => of_any y W hxi.1 hxi.2)
      have HLEN : Hid ((xs.take i).length ≤ 1000000000) := Lib.hid (by rw [List.length_take]; omega)
      clear hxi
      go_wp2_with fail
      refine Calls.mono (HOF.out _) ?_
      rintro e w1 ⟨v1, rfl, hv, hu⟩
      have HU1' := Lib.hid hu
      have HV := Lib.hid hv
      obtain ⟨s2, B2, m2, k2, rfl, -⟩ := hv.open_
      clear hu hv c0 hbb
      go_wp2_with (at_builtin; refine wpList_pushE eltZ wA rfl (.tmp 18) (.tmp 21) 90 108 rfl _ 32 Tryz.underlying90 info_int rfl zint_nod (by decide) _ (xs.take i) rfl (HOW.out.up (HU1'.out.trans (Up.alloc _ _))) (by (repeat (first | exact Below.refl _ _ | exact Hid.out (by assumption) | refine Up.trans ?_ (Up.drew _) | refine Up.trans ?_ (Up.drewN _ _) | refine Up.trans ?_ (Up.alloc _ _) | refine Up.trans ?_ (Hid.out (by assumption))))) ⟨w1.heap.size, 0, none⟩ rfl [.int .i64 s2, .slice B2 m2 k2] y (new_cells w1 [.int .i64 s2, .slice B2 m2 k2] _) (HV.out.elt (Up.alloc _ _)) HLEN.out ?_; intro v' w' hown' hup')
      exact ⟨⟨i + 1, by omega, by simp, by rw [HNEXT.out]; exact Lib.hid hown', Lib.hid hup'⟩, by simp [intOf]; omega⟩
    · have hie : i = xs.length := by omega
      subst hie
      rw [List.take_length] at HOW
      have hcb := (HU.out.block g0 HLT.out).trans HC0.out
      have c0 : wr.cell? ⟨g0, 0, none⟩ = some (.slice A xs.length c) := by rw [cell_of_row wr g0 0 _ _ _ hcb]; rfl
      have c1 : wr.cell? ⟨g0, 1, none⟩ = some (.int .i64 x) := by rw [cell_of_row wr g0 1 _ _ _ hcb]; rfl
      have lg : g0 < wr.heap.size := Nat.lt_of_lt_of_le HLT.out HU.out.size
      have HLEN : Hid (xs.length ≤ 1000000000) := Lib.hid (by omega)
      clear hcb
      go_wp2_with fail
      refine Calls.mono (HX0.out _) ?_
      rintro e w1 ⟨v1, rfl, hv, hu⟩
      have HU1' := Lib.hid hu
      have HV := Lib.hid hv
      obtain ⟨s2, B2, m2, k2, rfl, -⟩ := hv.open_
      clear hu hv c0 c1 lg
      go_wp2_with (at_builtin; refine wpList_pushE eltZ wA rfl (.tmp 24) (.tmp 28) 90 108 rfl _ 32 Tryz.underlying90 info_int rfl zint_nod (by decide) _ xs rfl (HOW.out.up (HU1'.out.trans (Up.alloc _ _))) (by (repeat (first | exact Below.refl _ _ | exact Hid.out (by assumption) | refine Up.trans ?_ (Up.drew _) | refine Up.trans ?_ (Up.drewN _ _) | refine Up.trans ?_ (Up.alloc _ _) | refine Up.trans ?_ (Hid.out (by assumption))))) ⟨w1.heap.size, 0, none⟩ rfl [.int .i64 s2, .slice B2 m2 k2] x (new_cells w1 [.int .i64 s2, .slice B2 m2 k2] _) (HV.out.elt (Up.alloc _ _)) HLEN.out ?_; intro v' w' hown' hup')
      go_ret
      obtain ⟨A5, c5, e5, k1, k2, k3, k4⟩ := hown'.read (fun h => h)
      exact ⟨v', rfl, ⟨A5, c5, e5, k1, k2, k3.z, fun b off e => by have := k4 b off e; have := HLT.out; have := HGW.out; omega⟩, HU0.out.trans hup'⟩
end Go.Proofs.YtacbjbnocepnaaaGreatDoor
namespace Go.Proofs.YtacbjbnocepnaaaGreatDoor
open Go.RowKit Fm
theorem OwE.lt {α : Type} {E : Elt α} {w0 w : World} {t : TypeId} {v : Value} {zs : List α} (h : OwE E w0 w t v zs) : ∀ g, v.ownBlock = some g → g < w.heap.size := by
  obtain ⟨css, h1, h2, h3⟩ := h
  exact fun g hg => (h2.lt g hg).2
theorem RowF.elt {w0 w w' : World} {A : Option Addr} {n c : Nat} {r : List Int} {o : Option Nat} (h : RowF w0 w (.slice A n c) r) (ho : ∀ g, o = some g → g < w0.heap.size) (hu : Up w w') : eltRow.rel w' o [.slice A n c] r := by
  obtain ⟨A', c', e, h1, h2, h3, h4⟩ := h
  injection e with e1 e2 e3
  subst e1; subst e2; subst e3
  exact ⟨_, _, rfl, h1, h2, h3.up hu, fun g hg _ b off e => by have := h4 b off e; have := ho g hg; omega⟩
def rowF (f : List Int × Int) : List Int := f.1 ++ [f.2]
def FormR (n : Nat) (f : List Int × Int) : Prop := f.1.length = n ∧ (∀ y, y ∈ f.1 → -9223372036854775808 ≤ y ∧ y ≤ 9223372036854775807) ∧ -9223372036854775808 ≤ f.2 ∧ f.2 ≤ 9223372036854775807
theorem FormR.bd {n : Nat} {f : List Int × Int} (h : FormR n f) : (rowF f).length = n + 1 ∧ Bd 2 (rowF f) := by
  refine ⟨by simp [rowF, h.1], fun y hy => ?_⟩
  have hy2 : -9223372036854775808 ≤ y ∧ y ≤ 9223372036854775807 := by
    rcases List.mem_append.1 hy with h1 | h1
    · exact h.2.1 y h1
    · simp at h1; subst h1; exact h.2.2
  exact digs_length_le (B := 4294967296) (k := 2) (by omega) (by omega)
theorem info_row : (Tryz.prog.info? 90).map (fun i => (i.zero, i.size, i.bytes)) = some (some (.slice none 0 0), 1, 24) := by kernel_rfl
theorem zrow_nod : ∀ u ∈ (Value.slice none 0 0).cells.toList, NoDig u := by
  intro u hu
  simp [Value.cells] at hu
  subst hu
  exact NoDig.slice _ _ _
theorem SysV.same {w wF : World} {g0 n : Nat} {T : Sys} {arr : Array Value} (h : SysV w arr n T) (hz : ZeroS w g0) (he : Ech n T) (hs : SameBut g0 w wF) : SysV wF arr n T := by
  refine ⟨h.1, h.2.1, h.2.2.1, fun c hc => ?_⟩
  obtain ⟨A, m, k, e1, e2⟩ := h.2.2.2 c hc
  refine ⟨A, m, k, e1, fun g' hg' => ?_⟩
  have e3 := e2 w.heap.size (Nat.le_refl _)
  cases hT : T.getD c none with
  | none => rw [hT] at e3; exact e3
  | some r =>
    rw [hT] at e3
    obtain ⟨A', c', h1, h2, h3, h4, h5, h6⟩ := e3
    have haw := hz.away h5 (he.2 c r hT).at_
    have hr5 := h5.same haw hz.not_digit hs
    refine ⟨A', c', h1, h2, h3, h4, hr5, fun b off e => ?_⟩
    obtain ⟨b2, off2, e7, hb2, -⟩ := hr5 h2
    rw [e] at e7; cases e7
    omega
theorem SysV.open_ {w : World} {arr : Array Value} {n : Nat} {T : Sys} (h : SysV w arr n T) : ∃ A0 m0 k0 A1 m1 k1 A2 m2 k2 A3 m3 k3 A4 m4 k4 A5 m5 k5 A6 m6 k6 A7 m7 k7 A8 m8 k8 A9 m9 k9, arr = #[.int .i64 n, .slice A0 m0 k0, .slice A1 m1 k1, .slice A2 m2 k2, .slice A3 m3 k3, .slice A4 m4 k4, .slice A5 m5 k5, .slice A6 m6 k6, .slice A7 m7 k7, .slice A8 m8 k8, .slice A9 m9 k9] := by
  obtain ⟨h0, h1, -, h2⟩ := h
  obtain ⟨A0, m0, k0, e0, -⟩ := h2 0 (by omega)
  obtain ⟨A1, m1, k1, e1, -⟩ := h2 1 (by omega)
  obtain ⟨A2, m2, k2, e2, -⟩ := h2 2 (by omega)
  obtain ⟨A3, m3, k3, e3, -⟩ := h2 3 (by omega)
  obtain ⟨A4, m4, k4, e4, -⟩ := h2 4 (by omega)
  obtain ⟨A5, m5, k5, e5, -⟩ := h2 5 (by omega)
  obtain ⟨A6, m6, k6, e6, -⟩ := h2 6 (by omega)
  obtain ⟨A7, m7, k7, e7, -⟩ := h2 7 (by omega)
  obtain ⟨A8, m8, k8, e8, -⟩ := h2 8 (by omega)
  obtain ⟨A9, m9, k9, e9, -⟩ := h2 9 (by omega)
  refine ⟨A0, m0, k0, A1, m1, k1, A2, m2, k2, A3, m3, k3, A4, m4, k4, A5, m5, k5, A6, m6, k6, A7, m7, k7, A8, m8, k8, A9, m9, k9, ?_⟩
  apply Array.ext_getElem?
  intro j
  match j with
  | 0 => exact h1
  | 1 => exact e0
  | 2 => exact e1
  | 3 => exact e2
  | 4 => exact e3
  | 5 => exact e4
  | 6 => exact e5
  | 7 => exact e6
  | 8 => exact e7
  | 9 => exact e8
  | 10 => exact e9
  | j + 11 => rw [Array.getElem?_eq_none (by omega), Array.getElem?_eq_none (by simp)]
theorem eltRow_none {w : World} {o : Option Nat} {cs : List Value} {r : List Int} (h : eltRow.rel w o cs r) : eltRow.rel w none cs r := by
  obtain ⟨A, c, rfl, h1, h2, h3, -⟩ := h
  exact ⟨A, c, rfl, h1, h2, h3, fun g hg => by cases hg⟩
theorem sysR_ech (n K : Nat) (hn : n ≤ 9) (ls : List (List Int)) (h : ∀ r, r ∈ ls → r.length = n + 1 ∧ Bd K r) : Ech n (sysR n ls) :=
  redR_ech n hn _ _ (Nat.le_refl _) (fold_ok n K hn ls _ h (startR n) (sb_start K)).1
set_option maxHeartbeats 4000000 in
set_option maxRecDepth 10000 in
theorem linSystemOf_any (A : Option Addr) (c n : Nat) (fs : List (List Int × Int)) (w : World) (hn : n ≤ 9) (hlen : fs.length ≤ 200) (hr : RdE eltForm w A fs) (hf : ∀ f, f ∈ fs → FormR n f) (ht : Tab w) :
    Calls Tryz.prog 52 #[.int .i64 n, .slice A fs.length c] w fun e w' => ∃ arr, e = .returned (.agg arr) ∧ SysV w' arr n (sysR n (fs.map rowF)) ∧ Up w w' := by
  have HZ0 : Hid (ZeroS (w.alloc (.cells (zeroSys 0) 93)) w.heap.size) := Lib.hid (heap_alloc_new w _)
  have HU0 := Lib.hid (Up.alloc w (.cells (zeroSys 0) 93))
  unfold zeroSys at HZ0 HU0
  go_enter Tryz.func52, Tryz.ntmps52
  go_wp2
  obtain ⟨wA, hwA⟩ : ∃ wA, wA = w.alloc (.cells (zeroSys 0) 93) := ⟨_, rfl⟩
  unfold zeroSys at hwA
  rw [← hwA] at HZ0 HU0 ⊢
  clear hwA
  obtain ⟨g0, hg0⟩ : ∃ g0, g0 = w.heap.size := ⟨_, rfl⟩
  rw [← hg0] at HZ0 ⊢
  have HG0 := Lib.hid (show w.heap.size ≤ g0 by omega)
  clear hg0
  go_loopw [5, 10] (fun v i wr => ∃ k : Nat, k ≤ fs.length ∧ i = .int .i64 k ∧ Hid (OwE eltRow wA wr 90 v ((fs.take k).map rowF)) ∧ Hid (Up wA wr)) (fun _ i _ => fs.length - (intOf i).toNat)
  case atStart => exact ⟨0, by omega, rfl, Lib.hid (OwE.nil _ _ _ _), Lib.hid (Up.refl _)⟩
  case round =>
    obtain ⟨i, hi, rfl, HOW, HU⟩ := hrel
    by_cases hil : i < fs.length
    · obtain ⟨b, off, cs, rfl, hbb, ⟨A1, c1, rfl, h1, h2, h3, -⟩, hcell⟩ := (hr.up (HU0.out.trans HU.out)).at_ hil
      have c0 := hcell 0 _ rfl
      have c1' := hcell 1 _ rfl
      have hfi := hf fs[i] (List.getElem_mem hil)
      have HNEXT : Hid ((fs.take (i + 1)).map rowF = (fs.take i).map rowF ++ [rowF fs[i]]) := Lib.hid (by rw [List.take_succ_eq_append_getElem hil, List.map_append]; rfl)
      have HLEN : Hid (((fs.take i).map rowF).length ≤ 1000000000) := Lib.hid (by rw [List.length_map, List.length_take]; omega)
      have HRO := Lib.hid (fun W (hu : Up wr W) => rowOf_any A1 c1 fs[i].1 fs[i].2 W (by rw [hfi.1]; omega) (h3.up hu) hfi.2.1 hfi.2.2)
      rw [hfi.1] at HRO c0
      rw [show eltForm.size = 2 from rfl, Nat.add_zero] at c0
      rw [show eltForm.size = 2 from rfl] at c1'
      obtain ⟨f, hfe⟩ : ∃ f, f = fs[i] := ⟨_, rfl⟩
      rw [← hfe] at HRO HNEXT c1' hfi
      have HFR := Lib.hid hfi.bd.1
      have HUY := Lib.hid (Up.alloc wr (.cells #[.slice A1 n c1, .int .i64 f.2] 28))
      clear hfe hcell h1 h2 h3 hfi
      go_wp2_with fail
      refine Calls.mono (HRO.out _ HUY.out) ?_
      rintro e w1 ⟨v1, rfl, hv, hu⟩
      have HU1 := Lib.hid hu
      have HV := Lib.hid hv
      obtain ⟨A5, c5, rfl, -⟩ := hv
      clear hu c0 c1' hbb
      have HREL := Lib.hid (fun w' (hu' : Up w1 w') => RowF.elt (o := Value.ownBlock u5) (w' := w') HV.out (fun g hg => by have := HOW.out.lt g hg; have := HUY.out.size; omega) hu')
      have HLR : Hid ((f.1 ++ [f.2]).length = n + 1) := HFR
      rw [HLR.out] at HREL ⊢
      go_wp2_with (at_builtin; refine wpList_pushE eltRow wA rfl (.tmp 14) (.tmp 17) 95 90 rfl _ 24 Tryz.underlying95 info_row rfl zrow_nod (by decide) _ _ rfl (HOW.out.up (HUY.out.trans (HU1.out.trans (Up.alloc _ _)))) (by (repeat (first | exact Below.refl _ _ | exact Hid.out (by assumption) | refine Up.trans ?_ (Up.drew _) | refine Up.trans ?_ (Up.drewN _ _) | refine Up.trans ?_ (Up.alloc _ _) | refine Up.trans ?_ (Hid.out (by assumption))))) ⟨w1.heap.size, 0, none⟩ rfl [.slice A5 (n + 1) c5] (rowF f) (new_cells w1 [.slice A5 (n + 1) c5] _) (HREL.out _ (Up.alloc _ _)) HLEN.out ?_; intro v' w' hown' hup')
      exact ⟨⟨i + 1, by omega, by simp, by rw [HNEXT.out]; exact Lib.hid hown', Lib.hid hup'⟩, by simp [intOf]; omega⟩
    · have hie : i = fs.length := by omega
      subst hie
      rw [List.take_length] at HOW
      obtain ⟨A5, c5, hv5, k1, k2, k3, -⟩ := HOW.out.read eltRow_none
      rw [hv5]
      have hall : ∀ r, r ∈ fs.map rowF → r.length = n + 1 ∧ Bd 2 r := fun r hr => by
        obtain ⟨f, hf1, rfl⟩ := List.mem_map.1 hr
        exact (hf f hf1).bd
      have HSO := Lib.hid (fun W (hu : Up wr W) => systemOf_any A5 c5 n 2 (fs.map rowF) W hn (by omega) k1 k2 hall (k3.l.up hu) (ht.up (HU0.out.trans (HU.out.trans hu))))
      have HECH := Lib.hid (sysR_ech n 2 hn (fs.map rowF) hall)
      have HML : Hid ((fs.map rowF).length = fs.length) := Lib.hid (by simp)
      rw [HML.out] at HSO ⊢
      clear hv5 k1 k2 k3 hall
      go_wp2_with fail
      refine Calls.mono (HSO.out _ (Up.refl _)) ?_
      rintro e w2 ⟨arr, rfl, hs, hu⟩
      have HU2 := Lib.hid (HU.out.trans hu)
      have HS2 := Lib.hid hs
      obtain ⟨A0, m0, k0, A1, m1, k1, A2, m2, k2, A3, m3, k3, A4, m4, k4, A5, m5, k5, A6, m6, k6, A7, m7, k7, A8, m8, k8, A9, m9, k9, rfl⟩ := hs.open_
      have HZ2 := Lib.hid (HZ0.out.up HU2.out)
      clear hu hs
      have q0 := HZ2.out.cells 0
      have f0 : w2.frozen? ⟨g0, 0, none⟩ = false := by have := HZ2.out; unfold ZeroS at this; simp [World.frozen?, this]
      have q1 := HZ2.out.cells 1
      have f1 : w2.frozen? ⟨g0, 1, none⟩ = false := by have := HZ2.out; unfold ZeroS at this; simp [World.frozen?, this]
      have q2 := HZ2.out.cells 2
      have f2 : w2.frozen? ⟨g0, 2, none⟩ = false := by have := HZ2.out; unfold ZeroS at this; simp [World.frozen?, this]
      have q3 := HZ2.out.cells 3
      have f3 : w2.frozen? ⟨g0, 3, none⟩ = false := by have := HZ2.out; unfold ZeroS at this; simp [World.frozen?, this]
      have q4 := HZ2.out.cells 4
      have f4 : w2.frozen? ⟨g0, 4, none⟩ = false := by have := HZ2.out; unfold ZeroS at this; simp [World.frozen?, this]
      have q5 := HZ2.out.cells 5
      have f5 : w2.frozen? ⟨g0, 5, none⟩ = false := by have := HZ2.out; unfold ZeroS at this; simp [World.frozen?, this]
      have q6 := HZ2.out.cells 6
      have f6 : w2.frozen? ⟨g0, 6, none⟩ = false := by have := HZ2.out; unfold ZeroS at this; simp [World.frozen?, this]
      have q7 := HZ2.out.cells 7
      have f7 : w2.frozen? ⟨g0, 7, none⟩ = false := by have := HZ2.out; unfold ZeroS at this; simp [World.frozen?, this]
      have q8 := HZ2.out.cells 8
      have f8 : w2.frozen? ⟨g0, 8, none⟩ = false := by have := HZ2.out; unfold ZeroS at this; simp [World.frozen?, this]
      have q9 := HZ2.out.cells 9
      have f9 : w2.frozen? ⟨g0, 9, none⟩ = false := by have := HZ2.out; unfold ZeroS at this; simp [World.frozen?, this]
      have q10 := HZ2.out.cells 10
      have f10 : w2.frozen? ⟨g0, 10, none⟩ = false := by have := HZ2.out; unfold ZeroS at this; simp [World.frozen?, this]
      simp only [zeroSys] at q0 q1 q2 q3 q4 q5 q6 q7 q8 q9 q10
      simp at q0 q1 q2 q3 q4 q5 q6 q7 q8 q9 q10
      have lg0 := HZ2.out.lt
      go_wp2
      have HPC := Lib.hid (put11_cell HZ2.out (.int .i64 n) (.slice A0 m0 k0) (.slice A1 m1 k1) (.slice A2 m2 k2) (.slice A3 m3 k3) (.slice A4 m4 k4) (.slice A5 m5 k5) (.slice A6 m6 k6) (.slice A7 m7 k7) (.slice A8 m8 k8) (.slice A9 m9 k9))
      have HPU := Lib.hid (Up.put11 (HU0.out.trans HU2.out) HG0.out (.int .i64 n) (.slice A0 m0 k0) (.slice A1 m1 k1) (.slice A2 m2 k2) (.slice A3 m3 k3) (.slice A4 m4 k4) (.slice A5 m5 k5) (.slice A6 m6 k6) (.slice A7 m7 k7) (.slice A8 m8 k8) (.slice A9 m9 k9))
      have HPS := Lib.hid (put11_same w2 g0 (.int .i64 n) (.slice A0 m0 k0) (.slice A1 m1 k1) (.slice A2 m2 k2) (.slice A3 m3 k3) (.slice A4 m4 k4) (.slice A5 m5 k5) (.slice A6 m6 k6) (.slice A7 m7 k7) (.slice A8 m8 k8) (.slice A9 m9 k9))
      obtain ⟨wF, hwF⟩ : ∃ wF, wF = put11 w2 g0 (.int .i64 n) (.slice A0 m0 k0) (.slice A1 m1 k1) (.slice A2 m2 k2) (.slice A3 m3 k3) (.slice A4 m4 k4) (.slice A5 m5 k5) (.slice A6 m6 k6) (.slice A7 m7 k7) (.slice A8 m8 k8) (.slice A9 m9 k9) := ⟨_, rfl⟩
      rw [← hwF] at HPC HPU HPS
      have HPV := Lib.hid (HS2.out.same HZ2.out HECH.out HPS.out)
      unfold put11 at hwF
      rw [← hwF]
      clear hwF
      obtain ⟨r0, r1, r2, r3, r4, r5, r6, r7, r8, r9, r10⟩ := HPC.out
      refine bodyPost_ret (by simp [results, Tryz.results52, go_sem, r0, r1, r2, r3, r4, r5, r6, r7, r8, r9, r10]; try rfl) rfl ?_
      exact ⟨_, rfl, HPV.out, HPU.out⟩
end Go.Proofs.YtacbjbnocepnaaaGreatDoor
namespace Go.Proofs.YtacbjbnocepnaaaGreatDoor
open Go.RowKit Fm
theorem PlaceV.nil {w : World} {g : Nat} {v : Value} (h : PlaceV w g v none) : v = .slice none 0 0 := h
theorem PlaceV.row {w : World} {g : Nat} {v : Value} {r : List Int} (h : PlaceV w g v (some r)) : ∃ b off c, v = .slice (some ⟨b, off, none⟩) r.length c ∧ r ≠ [] ∧ r.length ≤ c ∧ c ≤ maxLen ∧ RdZ w (some ⟨b, off, none⟩) r ∧ b < w.heap.size := by
  obtain ⟨A, c, rfl, h1, h2, h3, h4, h5⟩ := h
  obtain ⟨b, off, rfl, hb, -⟩ := h4 h1
  exact ⟨b, off, c, rfl, h1, h2, h3, h4, hb⟩
set_option maxRecDepth 10000 in
theorem sysSolvable_any (g n : Nat) (S : Sys) (w : World) (hn : n ≤ 9) (hs : SysB w g n S) :
    Calls Tryz.prog 53 #[.pointer (some ⟨g, 0, none⟩)] w fun e w' => e = .returned (.bool (S.getD n none).isNone) ∧ Up w w' := by
  have hcell := hs.cell0
  have hlt := hs.lt
  have qT : ∀ (w : World) (a : Option Addr) (n c n' c' : Nat), (binOp .eql 90 (.slice a n c) (.slice none n' c')).run Tryz.prog w = .ok (.bool a.isNone) w := fun w a n c n' c' => Lib.run_eql_slice_nil w _ _ a n c n' c' Tryz.underlying90
  obtain ⟨A2, m2, q2, hcell2, hplace⟩ := hs.at_ (c := n) (by omega)
  rw [Nat.add_comm n 1] at hcell2
  have i0 : (0 : Int) ≤ (n : Int) := by omega
  have i3 : (n : Int) < 10 := by omega
  cases hp : S.getD n none with
  | none =>
    rw [hp] at hplace
    rw [hplace.nil] at hcell2
    clear hp hplace hs
    go_enter Tryz.func53, Tryz.ntmps53
    go_upto_region 1 with fail
    go_region
    all_goals
      go_wp2
      refine bodyPost_ret (by simp [results, Tryz.results53, go_sem]; try rfl) rfl ?_
      exact ⟨rfl, by (repeat (first | exact Below.refl _ _ | exact Hid.out (by assumption) | refine Up.trans ?_ (Up.drew _) | refine Up.trans ?_ (Up.drewN _ _) | refine Up.trans ?_ (Up.alloc _ _) | refine Up.trans ?_ (Hid.out (by assumption))))⟩
  | some r =>
    rw [hp] at hplace
    obtain ⟨b, off, c, e1, -⟩ := hplace.row
    rw [e1] at hcell2
    clear hp hplace hs e1
    go_enter Tryz.func53, Tryz.ntmps53
    go_upto_region 1 with fail
    go_region
    all_goals
      go_wp2
      refine bodyPost_ret (by simp [results, Tryz.results53, go_sem]; try rfl) rfl ?_
      exact ⟨rfl, by (repeat (first | exact Below.refl _ _ | exact Hid.out (by assumption) | refine Up.trans ?_ (Up.drew _) | refine Up.trans ?_ (Up.drewN _ _) | refine Up.trans ?_ (Up.alloc _ _) | refine Up.trans ?_ (Hid.out (by assumption))))⟩
theorem info_int1 : (Tryz.prog.info? 3).map (fun i => (i.zero, i.size, i.bytes)) = some (some (.int .i64 0), 1, 8) := by kernel_rfl
theorem zi_nod : ∀ u ∈ (Value.int .i64 0).cells.toList, NoDig u := by
  intro u hu
  simp [Value.cells] at hu
  subst hu
  exact NoDig.int _
def leadI (n : Nat) (S : Sys) : List Int := (leadR n S).map fun c : Nat => (c : Int)
set_option maxHeartbeats 4000000 in
set_option maxRecDepth 10000 in
theorem sysLeading_any (g n : Nat) (S : Sys) (w : World) (hn : n ≤ 9) (hs : SysB w g n S) :
    Calls Tryz.prog 58 #[.pointer (some ⟨g, 0, none⟩)] w fun e w' => ∃ A c, e = .returned (.slice A (leadI n S).length c) ∧ (leadI n S).length ≤ c ∧ c ≤ maxLen ∧ RdI w' A (leadI n S) ∧ (∀ b off, A = some ⟨b, off, none⟩ → w.heap.size ≤ b) ∧ Up w w' := by
  have hcell := hs.cell0
  have hlt := hs.lt
  have qN : ∀ (w : World) (a : Option Addr) (n c n' c' : Nat), (binOp .neq 90 (.slice a n c) (.slice none n' c')).run Tryz.prog w = .ok (.bool (!a.isNone)) w := fun w a n c n' c' => run_neq_slice_nil_any w _ _ a n c n' c' Tryz.underlying90
  have HS := Lib.hid hs
  clear hs
  go_enter Tryz.func58, Tryz.ntmps58
  go_wp2
  clear hcell
  go_loopw [3, 9] (fun v i wr => ∃ k : Nat, k ≤ n ∧ i = .int .i64 k ∧ Hid (OwE eltI w wr 3 v ((((List.range k).filter fun c => (S.getD c none).isSome)).map fun c : Nat => (c : Int))) ∧ Hid (Up w wr)) (fun _ i _ => n - (intOf i).toNat)
  case atStart => exact ⟨0, by omega, rfl, Lib.hid (OwE.nil _ _ _ _), Lib.hid (Up.refl _)⟩
  case round =>
    obtain ⟨k, hk, rfl, HOW, HU⟩ := hrel
    by_cases hkn : k < n
    · have hk10 : k < 10 := by omega
      have i0 : (0 : Int) ≤ (k : Int) := by omega
      have i3 : (k : Int) < 10 := by omega
      have i4 : (k : Int) < (n : Int) := by omega
      have HSR := Lib.hid (HS.out.up HU.out)
      obtain ⟨A2, m2, q2, hcell2, hplace⟩ := HSR.out.at_ hk10
      rw [Nat.add_comm k 1] at hcell2
      have hl1 := HSR.out.lt
      have HNEXT : Hid ((((List.range (k + 1)).filter fun c => (S.getD c none).isSome)).map (fun c : Nat => (c : Int)) = (((List.range k).filter fun c => (S.getD c none).isSome)).map (fun c : Nat => (c : Int)) ++ (if (S.getD k none).isSome then [(k : Int)] else [])) := Lib.hid (by
        rw [List.range_succ, List.filter_append, List.map_append]
        congr 1
        cases h : (S.getD k none) with
        | none => simp only [List.filter_cons, List.filter_nil, h]; rfl
        | some r => simp only [List.filter_cons, List.filter_nil, h]; rfl)
      have HLEN : Hid (((((List.range k).filter fun c => (S.getD c none).isSome)).map fun c : Nat => (c : Int)).length ≤ 1000000000) := Lib.hid (by
        have := List.length_filter_le (fun c => (S.getD c none).isSome) (List.range k)
        rw [List.length_range] at this
        rw [List.length_map]; omega)
      cases hp : S.getD k none with
      | none =>
        rw [hp] at hplace HNEXT
        rw [hplace.nil] at hcell2
        clear hp hplace
        go_wp2_with fail
        exact ⟨⟨k + 1, by omega, by simp, by rw [HNEXT.out]; simpa using HOW, HU⟩, by simp [intOf]; omega⟩
      | some r =>
        rw [hp] at hplace HNEXT
        obtain ⟨b, off, c, e1, -⟩ := hplace.row
        rw [e1] at hcell2
        clear hp hplace e1
        go_wp2_with (at_builtin; refine wpList_pushE eltI w rfl (.tmp 19) (.tmp 21) 26 3 rfl _ 8 Tryz.underlying26 info_int1 rfl zi_nod (by decide) _ _ rfl (HOW.out.up (Up.alloc _ _)) (by (repeat (first | exact Below.refl _ _ | exact Hid.out (by assumption) | refine Up.trans ?_ (Up.drew _) | refine Up.trans ?_ (Up.drewN _ _) | refine Up.trans ?_ (Up.alloc _ _) | refine Up.trans ?_ (Hid.out (by assumption))))) ⟨wr.heap.size, 0, none⟩ rfl [.int .i64 (k : Int)] (k : Int) (new_cells wr [.int .i64 (k : Int)] _) rfl HLEN.out ?_; intro v' w' hown' hup')
        exact ⟨⟨k + 1, by omega, by simp, by rw [HNEXT.out]; exact Lib.hid hown', Lib.hid hup'⟩, by simp [intOf]; omega⟩
    · have hke : k = n := by omega
      subst hke
      obtain ⟨A5, c5, hv5, k1, k2, k3, k4⟩ := HOW.out.read (fun h => h)
      have HR := Lib.hid (And.intro k1 (And.intro k2 (And.intro k3.i k4)))
      rw [hv5]
      clear hv5 k1 k2 k3 k4
      go_wp2
      go_ret
      exact ⟨A5, c5, rfl, HR.out.1, HR.out.2.1, HR.out.2.2.1, HR.out.2.2.2, HU.out⟩
end Go.Proofs.YtacbjbnocepnaaaGreatDoor
namespace Go.Proofs.YtacbjbnocepnaaaGreatDoor
open Go.RowKit Fm
theorem lead_at {n : Nat} {S : Sys} {i : Nat} (hi : i < (leadR n S).length) : (leadR n S)[i] < n ∧ ∃ p, S.getD (leadR n S)[i] none = some p := by
  have hm := List.getElem_mem hi
  unfold leadR at hm
  rw [List.mem_filter] at hm
  refine ⟨List.mem_range.1 hm.1, ?_⟩
  cases h : S.getD (leadR n S)[i] none with
  | none => have h2 := hm.2; unfold leadR at h; rw [h] at h2; cases h2
  | some p => exact ⟨p, rfl⟩
set_option maxHeartbeats 4000000 in
set_option maxRecDepth 10000 in
theorem sysRows_any (g n : Nat) (S : Sys) (w : World) (hn : n ≤ 9) (hs : SysB w g n S) :
    Calls Tryz.prog 54 #[.pointer (some ⟨g, 0, none⟩)] w fun e w' => ∃ A c, e = .returned (.slice A (rowsR n S).length c) ∧ (rowsR n S).length ≤ c ∧ c ≤ maxLen ∧ RdL w' A (rowsR n S) ∧ Up w w' := by
  have HL := Lib.hid (fun W (hu : Up w W) => sysLeading_any g n S W hn (hs.up hu))
  have HS := Lib.hid hs
  have hlt := hs.lt
  clear hs
  go_enter Tryz.func54, Tryz.ntmps54
  go_wp2_with fail
  refine Calls.mono (HL.out _ (by (repeat (first | exact Below.refl _ _ | exact Hid.out (by assumption) | refine Up.trans ?_ (Up.drew _) | refine Up.trans ?_ (Up.drewN _ _) | refine Up.trans ?_ (Up.alloc _ _) | refine Up.trans ?_ (Hid.out (by assumption)))))) ?_
  rintro e w1 ⟨A5, c5, rfl, h1, h2, hrd, -, hu⟩
  have HU1 := Lib.hid hu
  have HLI : Hid ((leadI n S).length = (leadR n S).length) := Lib.hid (by simp [leadI])
  have hl9 : (leadR n S).length ≤ 9 := by
    have := List.length_filter_le (fun c => (S.getD c none).isSome) (List.range n)
    rw [List.length_range] at this
    unfold leadR; omega
  rw [HLI.out]
  clear hu h1 h2
  go_wp2
  go_loopw [3, 9] (fun v i wr => ∃ k : Nat, k ≤ (leadR n S).length ∧ i = .int .i64 k ∧ Hid (OwE eltRow w1 wr 90 v (((leadR n S).take k).map fun c => (S.getD c none).getD [])) ∧ Hid (Up w1 wr)) (fun _ i _ => (leadR n S).length - (intOf i).toNat)
  case atStart => exact ⟨0, by omega, rfl, Lib.hid (OwE.nil _ _ _ _), Lib.hid (Up.refl _)⟩
  case round =>
    obtain ⟨i, hi, rfl, HOW, HU⟩ := hrel
    by_cases hil : i < (leadR n S).length
    · obtain ⟨b, off, rfl, hbb, c0⟩ := (hrd.up HU.out).at_ (i := i) (by rw [HLI.out]; exact hil)
      obtain ⟨hcn, p, hp⟩ := lead_at hil
      have HNEXT : Hid (((leadR n S).take (i + 1)).map (fun c => (S.getD c none).getD []) = ((leadR n S).take i).map (fun c => (S.getD c none).getD []) ++ [p]) := Lib.hid (by
        rw [List.take_succ_eq_append_getElem hil, List.map_append, List.map_cons, List.map_nil, hp]; rfl)
      have ec : (leadI n S)[i]'(by rw [HLI.out]; exact hil) = (((leadR n S)[i] : Nat) : Int) := by simp [leadI]
      rw [ec] at c0
      generalize (leadR n S)[i] = c at *
      have hc10 : c < 10 := by omega
      have i0 : (0 : Int) ≤ (c : Int) := by omega
      have i3 : (c : Int) < 10 := by omega
      have HSR := Lib.hid (HS.out.up (HU1.out.trans HU.out))
      obtain ⟨A2, m2, q2, hcell2, hplace⟩ := HSR.out.at_ hc10
      rw [Nat.add_comm c 1] at hcell2
      have hl1 := HSR.out.lt
      rw [hp] at hplace
      have hpw := (HS.out.at_ hc10)
      obtain ⟨A3, m3, q3, hcell3, hplace3⟩ := hpw
      rw [Nat.add_comm c 1] at hcell3
      have heq := ((HU1.out.trans HU.out).cells.1 _ (1 + c) hlt).trans hcell3
      rw [hcell2] at heq
      injection heq with heq
      rw [hp, ← heq] at hplace3
      obtain ⟨b2, off2, c2, e1, e2, e3, e4, e5, e6⟩ := hplace3.row
      rw [e1] at hcell2
      have HREL := Lib.hid (fun w' (hu' : Up w w') => show eltRow.rel w' (Value.ownBlock u3) [.slice (some ⟨b2, off2, none⟩) p.length c2] p from ⟨_, _, rfl, e3, e4, e5.up hu', fun g2 hg2 _ b9 off9 e9 => by
        cases e9
        obtain ⟨css, _, hown, _⟩ := HOW.out
        have := (hown.lt g2 hg2).1
        have := HU1.out.size
        omega⟩)
      have HLEN : Hid ((((leadR n S).take i).map fun c => (S.getD c none).getD []).length ≤ 1000000000) := Lib.hid (by rw [List.length_map, List.length_take]; omega)
      clear hp ec hplace heq e1 e2 e3 e4 e5 e6 hcell3
      go_wp2_with (at_builtin; refine wpList_pushE eltRow w1 rfl (.tmp 13) (.tmp 20) 95 90 rfl _ 24 Tryz.underlying95 info_row rfl zrow_nod (by decide) _ _ rfl (HOW.out.up (Up.alloc _ _)) (HU.out.trans (Up.alloc _ _)) ⟨wr.heap.size, 0, none⟩ rfl [.slice (some ⟨b2, off2, none⟩) p.length c2] p (new_cells wr [.slice (some ⟨b2, off2, none⟩) p.length c2] _) (HREL.out _ (HU1.out.trans (HU.out.trans (Up.alloc _ _)))) HLEN.out ?_; intro v' w' hown' hup')
      exact ⟨⟨i + 1, by omega, by simp, by rw [HNEXT.out]; exact Lib.hid hown', Lib.hid hup'⟩, by simp [intOf]; omega⟩
    · have hke : i = (leadR n S).length := by omega
      subst hke
      rw [List.take_length] at HOW
      obtain ⟨A6, c6, hv6, k1, k2, k3, -⟩ := HOW.out.read eltRow_none
      have HR := Lib.hid (And.intro k1 (And.intro k2 k3.l))
      rw [hv6]
      clear hv6 k1 k2 k3
      go_wp2
      go_ret
      exact ⟨A6, c6, rfl, HR.out.1, HR.out.2.1, HR.out.2.2, HU1.out.trans HU.out⟩
set_option maxRecDepth 10000 in
theorem sysRow_any (g n c : Nat) (S : Sys) (p : List Int) (w : World) (hc : c ≤ 9) (hp : S.getD c none = some p) (hs : SysB w g n S) :
    Calls Tryz.prog 59 #[.pointer (some ⟨g, 0, none⟩), .int .i64 c] w fun e w' => ∃ A k, e = .returned (.slice A p.length k) ∧ p.length ≤ k ∧ k ≤ maxLen ∧ RdZ w' A p ∧ Up w w' := by
  have hlt := hs.lt
  obtain ⟨A2, m2, q2, hcell2, hplace⟩ := hs.at_ (c := c) (by omega)
  rw [Nat.add_comm c 1] at hcell2
  rw [hp] at hplace
  obtain ⟨b, off, k, e1, e2, e3, e4, e5, e6⟩ := hplace.row
  rw [e1] at hcell2
  have HR := Lib.hid (And.intro e3 (And.intro e4 e5))
  have i0 : (0 : Int) ≤ (c : Int) := by omega
  have i3 : (c : Int) < 10 := by omega
  clear hp hplace hs e1 e2 e3 e4 e5
  go_enter Tryz.func59, Tryz.ntmps59
  go_wp2
  refine bodyPost_ret (by simp [results, Tryz.results59, go_sem]; try rfl) rfl ?_
  exact ⟨_, _, rfl, HR.out.1, HR.out.2.1, HR.out.2.2.up (by (repeat (first | exact Below.refl _ _ | exact Hid.out (by assumption) | refine Up.trans ?_ (Up.drew _) | refine Up.trans ?_ (Up.drewN _ _) | refine Up.trans ?_ (Up.alloc _ _) | refine Up.trans ?_ (Hid.out (by assumption))))), by (repeat (first | exact Below.refl _ _ | exact Hid.out (by assumption) | refine Up.trans ?_ (Up.drew _) | refine Up.trans ?_ (Up.drewN _ _) | refine Up.trans ?_ (Up.alloc _ _) | refine Up.trans ?_ (Hid.out (by assumption))))⟩
set_option maxRecDepth 10000 in
theorem rowAdd_any (A : Option Addr) (c n : Nat) (r : List Int) (w : World) (hn : n ≤ 1000) (hl : r.length = n + 1) (hr : RdZ w A r) :
    Calls Tryz.prog 61 #[.slice A r.length c] w fun e w' => ∃ v, e = .returned v ∧ IV w' v (r.getD n 0) ∧ Up w w' := by
  obtain ⟨b, off, s1, B1, m1, k1, rfl, hbb, c0, c1, hz⟩ := hr.at_ (i := n) (by omega)
  have ez : r[n]'(by omega) = r.getD n 0 := by rw [List.getD_eq_getElem?_getD, List.getElem?_eq_getElem (by omega)]; rfl
  rw [ez] at hz
  have HZ := Lib.hid hz
  rw [hl]
  clear hz ez hr hl
  go_enter Tryz.func61, Tryz.ntmps61
  go_wp2
  obtain ⟨z0, z1, -, -, -⟩ := (CellZ.new w s1 B1 m1 k1).facts
  refine bodyPost_ret (by simp [results, Tryz.results61, go_sem, z0, z1]; try rfl) rfl ?_
  exact ⟨_, rfl, HZ.out.up (Up.alloc _ _), Up.alloc _ _⟩
end Go.Proofs.YtacbjbnocepnaaaGreatDoor
namespace Go.Proofs.YtacbjbnocepnaaaGreatDoor
open Go.RowKit Fm
def limI (x : Int) : Bool := decide (-1152921504606846976 ≤ x ∧ x ≤ 1152921504606846976)
def dimI (n : Int) : Bool := decide (0 ≤ n ∧ n ≤ 8)
def validF (n : Int) (f : List Int × Int) : Bool := dimI n && decide ((f.1.length : Int) = n) && limI f.2 && f.1.all limI
set_option maxRecDepth 10000 in
theorem validDim_any (n : Int) (w : World) : Calls Tryz.prog 80 #[.int .i64 n] w fun e w' => e = .returned (.bool (dimI n)) ∧ Up w w' := by
  unfold dimI
  by_cases h1 : 0 ≤ n
  · by_cases h2 : n ≤ 8
    · have HE : Hid (decide (0 ≤ n ∧ n ≤ 8) = true) := Lib.hid (by simp [h1, h2])
      rw [HE.out]
      go_enter Tryz.func80, Tryz.ntmps80
      go_wp2
      refine bodyPost_ret (by simp [results, Tryz.results80, go_sem]; try rfl) rfl ?_
      exact ⟨rfl, by (repeat (first | exact Below.refl _ _ | exact Hid.out (by assumption) | refine Up.trans ?_ (Up.drew _) | refine Up.trans ?_ (Up.drewN _ _) | refine Up.trans ?_ (Up.alloc _ _) | refine Up.trans ?_ (Hid.out (by assumption))))⟩
    · have HE : Hid (decide (0 ≤ n ∧ n ≤ 8) = false) := Lib.hid (by simp [h2])
      rw [HE.out]
      go_enter Tryz.func80, Tryz.ntmps80
      go_wp2
      refine bodyPost_ret (by simp [results, Tryz.results80, go_sem]; try rfl) rfl ?_
      exact ⟨rfl, by (repeat (first | exact Below.refl _ _ | exact Hid.out (by assumption) | refine Up.trans ?_ (Up.drew _) | refine Up.trans ?_ (Up.drewN _ _) | refine Up.trans ?_ (Up.alloc _ _) | refine Up.trans ?_ (Hid.out (by assumption))))⟩
  · have HE : Hid (decide (0 ≤ n ∧ n ≤ 8) = false) := Lib.hid (by simp [h1])
    rw [HE.out]
    go_enter Tryz.func80, Tryz.ntmps80
    go_wp2
    refine bodyPost_ret (by simp [results, Tryz.results80, go_sem]; try rfl) rfl ?_
    exact ⟨rfl, by (repeat (first | exact Below.refl _ _ | exact Hid.out (by assumption) | refine Up.trans ?_ (Up.drew _) | refine Up.trans ?_ (Up.drewN _ _) | refine Up.trans ?_ (Up.alloc _ _) | refine Up.trans ?_ (Hid.out (by assumption))))⟩
set_option maxRecDepth 10000 in
theorem inLimit_any (n : Int) (w : World) : Calls Tryz.prog 115 #[.int .i64 n] w fun e w' => e = .returned (.bool (limI n)) ∧ Up w w' := by
  unfold limI
  by_cases h1 : -1152921504606846976 ≤ n
  · by_cases h2 : n ≤ 1152921504606846976
    · have HE : Hid (decide (-1152921504606846976 ≤ n ∧ n ≤ 1152921504606846976) = true) := Lib.hid (by simp [h1, h2])
      rw [HE.out]
      go_enter Tryz.func115, Tryz.ntmps115
      go_wp2
      refine bodyPost_ret (by simp [results, Tryz.results115, go_sem]; try rfl) rfl ?_
      exact ⟨rfl, by (repeat (first | exact Below.refl _ _ | exact Hid.out (by assumption) | refine Up.trans ?_ (Up.drew _) | refine Up.trans ?_ (Up.drewN _ _) | refine Up.trans ?_ (Up.alloc _ _) | refine Up.trans ?_ (Hid.out (by assumption))))⟩
    · have HE : Hid (decide (-1152921504606846976 ≤ n ∧ n ≤ 1152921504606846976) = false) := Lib.hid (by simp [h2])
      rw [HE.out]
      go_enter Tryz.func115, Tryz.ntmps115
      go_wp2
      refine bodyPost_ret (by simp [results, Tryz.results115, go_sem]; try rfl) rfl ?_
      exact ⟨rfl, by (repeat (first | exact Below.refl _ _ | exact Hid.out (by assumption) | refine Up.trans ?_ (Up.drew _) | refine Up.trans ?_ (Up.drewN _ _) | refine Up.trans ?_ (Up.alloc _ _) | refine Up.trans ?_ (Hid.out (by assumption))))⟩
  · have HE : Hid (decide (-1152921504606846976 ≤ n ∧ n ≤ 1152921504606846976) = false) := Lib.hid (by simp [h1])
    rw [HE.out]
    go_enter Tryz.func115, Tryz.ntmps115
    go_wp2
    refine bodyPost_ret (by simp [results, Tryz.results115, go_sem]; try rfl) rfl ?_
    exact ⟨rfl, by (repeat (first | exact Below.refl _ _ | exact Hid.out (by assumption) | refine Up.trans ?_ (Up.drew _) | refine Up.trans ?_ (Up.drewN _ _) | refine Up.trans ?_ (Up.alloc _ _) | refine Up.trans ?_ (Hid.out (by assumption))))⟩
def CellF (w : World) (g : Nat) (A : Option Addr) (m c : Nat) (x : Int) : Prop := w.heap[g]? = some (.cells #[.slice A m c, .int .i64 x] 28 (0, 0))
theorem CellF.new (w : World) (A : Option Addr) (m c : Nat) (x : Int) : CellF (w.alloc (.cells #[.slice A m c, .int .i64 x] 28)) w.heap.size A m c x := heap_alloc_new w _
theorem CellF.lt {w : World} {g : Nat} {A : Option Addr} {m c : Nat} {x : Int} (h : CellF w g A m c x) : g < w.heap.size := by
  rcases Nat.lt_or_ge g w.heap.size with h1 | h1
  · exact h1
  · unfold CellF at h; rw [Array.getElem?_eq_none h1] at h; cases h
theorem CellF.up {w w' : World} {g : Nat} {A : Option Addr} {m c : Nat} {x : Int} (h : CellF w g A m c x) (hu : Up w w') : CellF w' g A m c x := (hu.block g h.lt).trans h
theorem CellF.facts {w : World} {g : Nat} {A : Option Addr} {m c : Nat} {x : Int} (h : CellF w g A m c x) : w.cell? ⟨g, 0, none⟩ = some (.slice A m c) ∧ w.cell? ⟨g, 1, none⟩ = some (.int .i64 x) ∧ w.frozen? ⟨g, 0, none⟩ = false ∧ w.frozen? ⟨g, 1, none⟩ = false ∧ g < w.heap.size :=
  ⟨by rw [cell_of_row w g 0 _ _ _ h]; rfl, by rw [cell_of_row w g 1 _ _ _ h]; rfl, by unfold CellF at h; simp [World.frozen?, h], by unfold CellF at h; simp [World.frozen?, h], h.lt⟩
set_option maxHeartbeats 1000000 in
set_option maxRecDepth 10000 in
theorem validForm_any (A : Option Addr) (c : Nat) (n : Int) (f : List Int × Int) (w : World) (hc : f.1.length ≤ 9223372036854775807) (hr : RdI w A f.1) :
    Calls Tryz.prog 76 #[.int .i64 n, .agg #[.slice A f.1.length c, .int .i64 f.2]] w fun e w' => e = .returned (.bool (validF n f)) ∧ Up w w' := by
  have HD := Lib.hid (fun W => validDim_any n W)
  have HA := Lib.hid (fun W => inLimit_any f.2 W)
  have HC := Lib.hid (CellF.new w A f.1.length c f.2)
  have HU := Lib.hid (Up.alloc w (.cells #[.slice A f.1.length c, .int .i64 f.2] 28))
  have HE : Hid (validF n f = (dimI n && decide ((f.1.length : Int) = n) && limI f.2 && f.1.all limI)) := Lib.hid rfl
  rcases h1 : dimI n with _ | _
  · rw [h1] at HE HD
    go_enter Tryz.func76, Tryz.ntmps76
    go_wp2_with fail
    refine Calls.mono (HD.out _) ?_
    rintro e w1 ⟨rfl, hu⟩
    have HU1 := Lib.hid hu
    clear hu
    go_wp2
    go_ret
    exact ⟨by rw [HE.out]; rfl, by (repeat (first | exact Below.refl _ _ | exact Hid.out (by assumption) | refine Up.trans ?_ (Up.drew _) | refine Up.trans ?_ (Up.drewN _ _) | refine Up.trans ?_ (Up.alloc _ _) | refine Up.trans ?_ (Hid.out (by assumption))))⟩
  rw [h1] at HE HD
  by_cases h2 : (f.1.length : Int) = n
  · subst h2
    have h2' : ((f.1.length : Int) != (f.1.length : Int)) = false := by simp
    rcases h3 : limI f.2 with _ | _
    · rw [h3] at HE HA
      clear h1 h3
      go_enter Tryz.func76, Tryz.ntmps76
      go_wp2_with fail
      refine Calls.mono (HD.out _) ?_
      rintro e w1 ⟨rfl, hu⟩
      have HU1 := Lib.hid hu
      obtain ⟨p0, p1, -, -, lg⟩ := (HC.out.up hu).facts
      clear hu
      go_wp2_with fail
      refine Calls.mono (HA.out _) ?_
      rintro e w2 ⟨rfl, hu⟩
      have HU2 := Lib.hid hu
      clear hu p0 p1 lg
      go_wp2
      go_ret
      exact ⟨by rw [HE.out]; simp, by (repeat (first | exact Below.refl _ _ | exact Hid.out (by assumption) | refine Up.trans ?_ (Up.drew _) | refine Up.trans ?_ (Up.drewN _ _) | refine Up.trans ?_ (Up.alloc _ _) | refine Up.trans ?_ (Hid.out (by assumption))))⟩
    · rw [h3] at HE HA
      have HE2 : Hid (validF (f.1.length : Int) f = f.1.all limI) := Lib.hid (by rw [HE.out]; simp)
      clear h1 h3 HE
      go_enter Tryz.func76, Tryz.ntmps76
      go_wp2_with fail
      refine Calls.mono (HD.out _) ?_
      rintro e w1 ⟨rfl, hu⟩
      have HU1 := Lib.hid hu
      obtain ⟨p0, p1, -, -, lg⟩ := (HC.out.up hu).facts
      clear hu
      go_wp2_with fail
      refine Calls.mono (HA.out _) ?_
      rintro e w2 ⟨rfl, hu⟩
      have HU2 := Lib.hid hu
      obtain ⟨p0, p1, -, -, lg⟩ := (HC.out.up (HU1.out.trans hu)).facts
      clear hu
      go_wp2
      go_loopw [26] (fun i wr => ∃ k : Nat, k ≤ f.1.length ∧ i = .int .i64 k ∧ Hid ((f.1.take k).all limI = true) ∧ Hid (Up w2 wr)) (fun i _ => f.1.length - (intOf i).toNat)
      case atStart => exact ⟨0, by omega, rfl, Lib.hid rfl, Lib.hid (Up.refl _)⟩
      case round =>
        obtain ⟨k, hk, rfl, HK, HUR⟩ := hrel
        by_cases hkl : k < f.1.length
        · obtain ⟨b, off, rfl, hbb, c0⟩ := (hr.up (show Up w wr by (repeat (first | exact Below.refl _ _ | exact Hid.out (by assumption) | refine Up.trans ?_ (Up.drew _) | refine Up.trans ?_ (Up.drewN _ _) | refine Up.trans ?_ (Up.alloc _ _) | refine Up.trans ?_ (Hid.out (by assumption)))))).at_ hkl
          have HI := Lib.hid (fun W => inLimit_any f.1[k] W)
          have HNEXT : Hid ((f.1.take (k + 1)).all limI = limI f.1[k]) := Lib.hid (by
            rw [List.take_succ_eq_append_getElem hkl, List.all_append, HK.out]; simp)
          have HFALSE : Hid (limI f.1[k] = false → f.1.all limI = false) := Lib.hid (fun h => by
            rw [List.all_eq_false]
            exact ⟨f.1[k], List.getElem_mem hkl, by simp [h]⟩)
          generalize f.1[k] = x at *
          go_wp2_with fail
          refine Calls.mono (HI.out _) ?_
          rintro e w3 ⟨rfl, hu⟩
          have HU3 := Lib.hid hu
          clear hu c0 hbb
          rcases h4 : limI x with _ | _
          · have HF := Lib.hid (HFALSE.out h4)
            clear h4 HNEXT HFALSE
            go_wp2
            go_ret
            exact ⟨by rw [HE2.out, HF.out]; rfl, by (repeat (first | exact Below.refl _ _ | exact Hid.out (by assumption) | refine Up.trans ?_ (Up.drew _) | refine Up.trans ?_ (Up.drewN _ _) | refine Up.trans ?_ (Up.alloc _ _) | refine Up.trans ?_ (Hid.out (by assumption))))⟩
          · rw [h4] at HNEXT
            clear h4 HFALSE
            go_wp2_with fail
            exact ⟨⟨k + 1, by omega, by simp, HNEXT, Lib.hid (by (repeat (first | exact Below.refl _ _ | exact Hid.out (by assumption) | refine Up.trans ?_ (Up.drew _) | refine Up.trans ?_ (Up.drewN _ _) | refine Up.trans ?_ (Up.alloc _ _) | refine Up.trans ?_ (Hid.out (by assumption)))))⟩, by simp [intOf]; omega⟩
        · have HA2 : Hid (f.1.all limI = true) := Lib.hid (by
            have := HK.out
            rwa [List.take_of_length_le (by omega)] at this)
          go_wp2
          go_ret
          exact ⟨by rw [HE2.out, HA2.out]; rfl, by (repeat (first | exact Below.refl _ _ | exact Hid.out (by assumption) | refine Up.trans ?_ (Up.drew _) | refine Up.trans ?_ (Up.drewN _ _) | refine Up.trans ?_ (Up.alloc _ _) | refine Up.trans ?_ (Hid.out (by assumption))))⟩
  · have h2a : ((f.1.length : Int) != n) = true := by simpa using h2
    have HE2 : Hid (validF n f = false) := Lib.hid (by rw [HE.out]; simp [h2])
    clear h1 h2 HE
    go_enter Tryz.func76, Tryz.ntmps76
    go_wp2_with fail
    refine Calls.mono (HD.out _) ?_
    rintro e w1 ⟨rfl, hu⟩
    have HU1 := Lib.hid hu
    obtain ⟨p0, p1, -, -, lg⟩ := (HC.out.up hu).facts
    clear hu
    go_wp2
    go_ret
    exact ⟨by rw [HE2.out]; rfl, by (repeat (first | exact Below.refl _ _ | exact Hid.out (by assumption) | refine Up.trans ?_ (Up.drew _) | refine Up.trans ?_ (Up.drewN _ _) | refine Up.trans ?_ (Up.alloc _ _) | refine Up.trans ?_ (Hid.out (by assumption))))⟩
end Go.Proofs.YtacbjbnocepnaaaGreatDoor
namespace Go.Proofs.YtacbjbnocepnaaaGreatDoor
open Go.RowKit Fm
def iCells (xs : List Int) : Array Value := (xs.map (Value.int .i64)).toArray
theorem iCells_zero (n : Nat) : madeCells (Value.int .i64 0).cells n = iCells (List.replicate n 0) := by
  apply Array.ext_getElem?
  intro i
  by_cases hi : i < n
  · simp [madeCells, Value.cells, hi, Nat.mod_one, iCells]
  · simp [madeCells, Value.cells, hi, iCells]
def RowI (w : World) (g : Nat) (xs : List Int) : Prop := w.heap[g]? = some (.cells (iCells xs) 3 (0, 0))
theorem RowI.lt {w : World} {g : Nat} {xs : List Int} (h : RowI w g xs) : g < w.heap.size := by
  rcases Nat.lt_or_ge g w.heap.size with h1 | h1
  · exact h1
  · unfold RowI at h; rw [Array.getElem?_eq_none h1] at h; cases h
theorem RowI.up {w w' : World} {g : Nat} {xs : List Int} (h : RowI w g xs) (hu : Up w w') : RowI w' g xs := (hu.block g h.lt).trans h
theorem RowI.cell {w : World} {g : Nat} {xs : List Int} (h : RowI w g xs) {i : Nat} (hi : i < xs.length) : w.cell? ⟨g, i, none⟩ = some (.int .i64 xs[i]) := by
  rw [cell_of_row w g i _ _ _ h]
  simp [iCells, List.getElem?_eq_getElem hi]
theorem RowI.frozen {w : World} {g : Nat} {xs : List Int} (h : RowI w g xs) (i : Nat) : w.frozen? ⟨g, i, none⟩ = false := by
  unfold RowI at h; simp [World.frozen?, h]
theorem RowI.set {w : World} {g : Nat} {xs : List Int} (h : RowI w g xs) (i : Nat) (x : Int) : RowI (w.setCell ⟨g, i, none⟩ (.int .i64 x)) g (xs.set i x) := by
  unfold RowI at h ⊢
  simp [World.setCell, Array.getElem?_modify, h, List.map_set, iCells]
theorem RowI.rd {w : World} {g : Nat} {xs : List Int} (h : RowI w g xs) (k : Nat) : RdI w (some ⟨g, 0, none⟩) (xs.take k) := fun _ =>
  ⟨g, 0, rfl, h.lt, fun i hi => by
    rw [Nat.zero_add, h.cell (by rw [List.length_take] at hi; omega), List.getElem_take]⟩
theorem mkInts (n : Nat) (hn : n ≤ 4294967296) (w : World) : (Instr.makeSlice 26 (.int .i64 (n : Int)) (.int .i64 (n : Int))).run Tryz.prog w =
    .ok (.slice (some ⟨w.heap.size, 0, none⟩) n n) (w.alloc (.cells (iCells (List.replicate n 0)) 3)) := by
  obtain ⟨i0, hi, hz0, hz1, hz2⟩ := info_parts info_int1
  have h := run_make (P := Tryz.prog) w 26 3 i0 (.int .i64 0) Tryz.underlying26 hi hz0 .i64 .i64 n n (by omega) (by omega) (by rw [hz2]; omega) (by omega)
  rw [h, hz1]; simp only [Int.toNat_natCast, Nat.mul_one, iCells_zero]
theorem within_lim (a : Int) : within a 1152921504606846976 = limI a := rfl
set_option maxHeartbeats 1000000 in
set_option maxRecDepth 10000 in
theorem rowInts_any (A : Option Addr) (c : Nat) (zs : List Int) (w : World) (hn : zs.length ≤ 1000000) (hr : RdZ w A zs) :
    Calls Tryz.prog 96 #[.slice A zs.length c] w fun e w' => ∃ v, e = .returned (.tuple #[v, .bool (zs.all limI)]) ∧ (zs.all limI = false → v = .slice none 0 0) ∧ (zs.all limI = true → ∃ g, v = .slice (some ⟨g, 0, none⟩) zs.length zs.length ∧ RowI w' g zs ∧ w.heap.size ≤ g) ∧ Up w w' := by
  have hmk : ∀ W, (Instr.makeSlice 26 (.int .i64 (zs.length : Int)) (.int .i64 (zs.length : Int))).run Tryz.prog W = .ok (.slice (some ⟨W.heap.size, 0, none⟩) zs.length zs.length) (W.alloc (.cells (iCells (List.replicate zs.length 0)) 3)) := fun W => mkInts zs.length (by omega) W
  have HB0 : Hid (RowI (w.alloc (.cells (iCells (List.replicate zs.length 0)) 3)) w.heap.size (List.replicate zs.length 0)) := Lib.hid (heap_alloc_new w _)
  have HU0 := Lib.hid (Up.alloc w (.cells (iCells (List.replicate zs.length 0)) 3))
  go_enter Tryz.func96, Tryz.ntmps96
  go_wp2
  generalize w.alloc (.cells (iCells (List.replicate zs.length 0)) 3) = wB at *
  obtain ⟨g, hg⟩ : ∃ g, g = w.heap.size := ⟨_, rfl⟩
  rw [← hg] at HB0 ⊢
  have HG := Lib.hid (show w.heap.size ≤ g by omega)
  clear hg hmk
  go_loopw [14] (fun i wr => ∃ k : Nat, k ≤ zs.length ∧ i = .int .i64 k ∧ Hid ((zs.take k).all limI = true) ∧ Hid (RowI wr g (fillR zs k)) ∧ Hid (Up w wr)) (fun i _ => zs.length - (intOf i).toNat)
  case atStart => exact ⟨0, by omega, rfl, Lib.hid rfl, by rw [fillR_zero]; exact HB0, HU0⟩
  case round =>
    obtain ⟨i, hi, rfl, HK, HB, HU⟩ := hrel
    by_cases hil : i < zs.length
    · obtain ⟨b, off, s1, B1, m1, k1, rfl, hbb, c0, c1, hz⟩ := (hr.up HU.out).at_ hil
      have HNEXT : Hid (fillR zs (i + 1) = (fillR zs i).set i zs[i]) := Lib.hid (by rw [fillR_next _ i hil])
      have HKN : Hid ((zs.take (i + 1)).all limI = limI zs[i]) := Lib.hid (by
        rw [List.take_succ_eq_append_getElem hil, List.all_append, HK.out]; simp)
      have HFALSE : Hid (limI zs[i] = false → zs.all limI = false) := Lib.hid (fun h => by
        rw [List.all_eq_false]
        exact ⟨zs[i], List.getElem_mem hil, by simp [h]⟩)
      have HIL : Hid (i < (fillR zs i).length) := Lib.hid (by rw [fillR_length _ _ (by omega)]; exact hil)
      generalize zs[i] = x at *
      have HW := Lib.hid (fun W (hu : Up wr W) => within_any _ x 1152921504606846976 W (hz.up hu) (by omega) (by omega))
      have HUY := Lib.hid (Up.alloc wr (.cells #[.int .i64 s1, .slice B1 m1 k1] 108))
      clear hz
      go_wp2_with fail
      refine Calls.mono (HW.out _ HUY.out) ?_
      rintro e w1 ⟨rfl, hu⟩
      have HU1 := Lib.hid hu
      rw [within_lim]
      clear hu c0 c1 hbb
      rcases h4 : limI x with _ | _
      · have HF := Lib.hid (HFALSE.out h4)
        clear h4 HKN HFALSE
        simp only [if_false, Bool.false_eq_true]
        go_wp2
        refine bodyPost_ret (by simp [results, Tryz.results96, go_sem]; try rfl) rfl ?_
        exact ⟨_, by rw [HF.out], fun _ => rfl, fun h => by (have h2 := HF.out; rw [h2] at h; cases h), by (repeat (first | exact Below.refl _ _ | exact Hid.out (by assumption) | refine Up.trans ?_ (Up.drew _) | refine Up.trans ?_ (Up.drewN _ _) | refine Up.trans ?_ (Up.alloc _ _) | refine Up.trans ?_ (Hid.out (by assumption))))⟩
      · rw [h4] at HKN
        have HB1 := Lib.hid (HB.out.up (w' := w1) (by (repeat (first | exact Below.refl _ _ | exact Hid.out (by assumption) | refine Up.trans ?_ (Up.drew _) | refine Up.trans ?_ (Up.drewN _ _) | refine Up.trans ?_ (Up.alloc _ _) | refine Up.trans ?_ (Hid.out (by assumption))))))
        have d0 := HB1.out.cell HIL.out
        have f3 := HB1.out.frozen i
        have lg := HB1.out.lt
        have HB2 := Lib.hid (HB1.out.set i x)
        have HUS := Lib.hid ((show Up w w1 by (repeat (first | exact Below.refl _ _ | exact Hid.out (by assumption) | refine Up.trans ?_ (Up.drew _) | refine Up.trans ?_ (Up.drewN _ _) | refine Up.trans ?_ (Up.alloc _ _) | refine Up.trans ?_ (Hid.out (by assumption))))).setCell (p := ⟨g, i, none⟩) HG.out (.int .i64 x))
        clear h4 HFALSE
        simp only [if_true]
        go_wp2_with fail
        exact ⟨⟨i + 1, by omega, by simp, HKN, by rw [HNEXT.out]; exact HB2, HUS⟩, by simp [intOf]; omega⟩
    · have hie : i = zs.length := by omega
      subst hie
      have HA : Hid (zs.all limI = true) := by have := HK.out; rw [List.take_length] at this; exact Lib.hid this
      have HR := Lib.hid (by have := HB.out; rw [fillR_all] at this; exact this)
      go_wp2
      refine bodyPost_ret (by simp [results, Tryz.results96, go_sem]; try rfl) rfl ?_
      exact ⟨_, by rw [HA.out], fun h => by (have h2 := HA.out; rw [h2] at h; cases h), fun _ => ⟨g, rfl, HR.out, HG.out⟩, HU.out⟩
end Go.Proofs.YtacbjbnocepnaaaGreatDoor
namespace Go.Proofs.YtacbjbnocepnaaaGreatDoor
open Go.RowKit Fm
theorem CellF.set {w : World} {g : Nat} {A : Option Addr} {m c : Nat} {x : Int} (h : CellF w g A m c x) (A' : Option Addr) (m' c' : Nat) (x' : Int) : CellF ((w.setCell ⟨g, 0, none⟩ (.slice A' m' c')).setCell ⟨g, 1, none⟩ (.int .i64 x')) g A' m' c' x' := by
  unfold CellF at h ⊢
  simp [World.setCell, Array.getElem?_modify, h]
theorem RowI.far {w : World} {g g' : Nat} {xs : List Int} (h : RowI w g xs) (hne : g ≠ g') (o1 o2 : Nat) (u v : Value) : RowI ((w.setCell ⟨g', o1, none⟩ u).setCell ⟨g', o2, none⟩ v) g xs :=
  (Below.heap_setCell _ ⟨g', o2, none⟩ v g hne).trans ((Below.heap_setCell w ⟨g', o1, none⟩ u g hne).trans h)
def FormOut (w w' : World) (n : Nat) (r : List Int) (e : Ending) : Prop :=
  ∃ A m c x, e = .returned (.tuple #[.agg #[.slice A m c, .int .i64 x], .bool (r.all limI)]) ∧ (r.all limI = false → A = none ∧ m = 0 ∧ c = 0 ∧ x = 0) ∧
    (r.all limI = true → m = n ∧ c = n ∧ x = r.getD n 0 ∧ RdI w' A (r.take n) ∧ ∀ b off, A = some ⟨b, off, none⟩ → w.heap.size ≤ b)
set_option maxHeartbeats 1000000 in
set_option maxRecDepth 10000 in
theorem rowForm_any (A : Option Addr) (c n : Nat) (r : List Int) (w : World) (hn : n ≤ 100000) (hl : r.length = n + 1) (hr : RdZ w A r) :
    Calls Tryz.prog 55 #[.slice A r.length c] w fun e w' => FormOut w w' n r e ∧ Up w w' := by
  have HI := Lib.hid (fun W (hu : Up w W) => rowInts_any A c r W (by omega) (hr.up hu))
  have hgn : r[n]'(by omega) = r.getD n 0 := by rw [List.getD_eq_getElem?_getD, List.getElem?_eq_getElem (by omega)]; rfl
  have HCZ := Lib.hid (CellF.new w none 0 0 0)
  have HU0 := Lib.hid (Up.alloc w (.cells #[.slice none 0 0, .int .i64 0] 28))
  rw [hl] at HI ⊢
  go_enter Tryz.func55, Tryz.ntmps55
  go_wp2_with fail
  generalize w.alloc (.cells #[.slice none 0 0, .int .i64 0] 28) = wB at *
  obtain ⟨g0, hg0⟩ : ∃ g0, g0 = w.heap.size := ⟨_, rfl⟩
  rw [← hg0] at HCZ ⊢
  have HG0 := Lib.hid (show w.heap.size ≤ g0 by omega)
  clear hg0
  refine Calls.mono (HI.out _ (by (repeat (first | exact Below.refl _ _ | exact Hid.out (by assumption) | refine Up.trans ?_ (Up.drew _) | refine Up.trans ?_ (Up.drewN _ _) | refine Up.trans ?_ (Up.alloc _ _) | refine Up.trans ?_ (Hid.out (by assumption)))))) ?_
  rintro e w1 ⟨v, rfl, hF, hT, hu⟩
  have HU1 := Lib.hid hu
  have HC1 := Lib.hid (HCZ.out.up hu)
  obtain ⟨p0, p1, f0, f1, lg0⟩ := HC1.out.facts
  clear hu
  rcases hall : r.all limI with _ | _
  · have hv := hF hall
    subst hv
    have HP := Lib.hid (HC1.out.set none 0 0 0)
    have HUS := Lib.hid ((show Up w w1 by (repeat (first | exact Below.refl _ _ | exact Hid.out (by assumption) | refine Up.trans ?_ (Up.drew _) | refine Up.trans ?_ (Up.drewN _ _) | refine Up.trans ?_ (Up.alloc _ _) | refine Up.trans ?_ (Hid.out (by assumption))))).stored HG0.out (.slice none 0 0) (.int .i64 0))
    have HAL := Lib.hid hall
    clear hF hT hall hgn hr hl
    go_wp2
    obtain ⟨z0, z1, -, -, -⟩ := HP.out.facts
    refine bodyPost_ret (by simp [results, Tryz.results55, go_sem, z0, z1]; try rfl) rfl ?_
    exact ⟨⟨_, _, _, _, by rw [HAL.out], fun _ => ⟨rfl, rfl, rfl, rfl⟩, fun h => by (have h2 := HAL.out; rw [h2] at h; cases h)⟩, HUS.out⟩
  · obtain ⟨g, hv, hrow, hg⟩ := hT hall
    subst hv
    have c0 := hrow.cell (i := n) (by omega)
    rw [hgn] at c0
    obtain ⟨y, hy⟩ : ∃ y, y = r.getD n 0 := ⟨_, rfl⟩
    rw [← hy] at c0
    have HY := Lib.hid hy
    clear hy
    have lg := hrow.lt
    have HNE : Hid (g ≠ g0) := Lib.hid (by have := HCZ.out.lt; omega)
    have HP := Lib.hid (HC1.out.set (some ⟨g, 0, none⟩) n n y)
    have HUS := Lib.hid ((show Up w w1 by (repeat (first | exact Below.refl _ _ | exact Hid.out (by assumption) | refine Up.trans ?_ (Up.drew _) | refine Up.trans ?_ (Up.drewN _ _) | refine Up.trans ?_ (Up.alloc _ _) | refine Up.trans ?_ (Hid.out (by assumption))))).stored HG0.out (.slice (some ⟨g, 0, none⟩) n n) (.int .i64 y))
    have HRW := Lib.hid (hrow.far HNE.out 0 1 (.slice (some ⟨g, 0, none⟩) n n) (.int .i64 y))
    have HGG := Lib.hid (show w.heap.size ≤ g by have := HU0.out.size; omega)
    have HAL := Lib.hid hall
    have i0 : (0 : Int) ≤ (n : Int) := by omega
    have i1 : (n : Int) < (n : Int) + 1 := by omega
    have i2 : (n : Int) ≤ (n : Int) + 1 := by omega
    clear hF hT hall hgn hr hl hrow
    go_upto_region 5 with fail
    go_region_with (fail)
    all_goals
      go_wp2
      obtain ⟨z0, z1, -, -, -⟩ := HP.out.facts
      refine bodyPost_ret (by simp [results, Tryz.results55, go_sem, z0, z1]; try rfl) rfl ?_
      exact ⟨⟨some ⟨g, 0, none⟩, n, n, y, by rw [HAL.out], fun h => by (have h2 := HAL.out; rw [h2] at h; cases h), fun _ => ⟨rfl, rfl, HY.out, HRW.out.rd n, fun b off e => by cases e; exact HGG.out⟩⟩, by (repeat (first | exact Below.refl _ _ | exact Hid.out (by assumption) | refine Up.trans ?_ (Up.drew _) | refine Up.trans ?_ (Up.drewN _ _) | refine Up.trans ?_ (Up.alloc _ _) | refine Up.trans ?_ (Hid.out (by assumption))))⟩
end Go.Proofs.YtacbjbnocepnaaaGreatDoor
namespace Go.Proofs.YtacbjbnocepnaaaGreatDoor
open Go.RowKit Fm
def validFs (n : Int) (fs : List (List Int × Int)) : Bool := dimI n && decide (fs.length ≤ 120) && fs.all (validF n)
theorem RdE.f {w : World} {A : Option Addr} {fs : List (List Int × Int)} (h : RdE eltForm w A fs) {i : Nat} (hi : i < fs.length) :
    ∃ b off B c, A = some ⟨b, off, none⟩ ∧ b < w.heap.size ∧ w.cell? ⟨b, off + i * 2, none⟩ = some (.slice B fs[i].1.length c) ∧ w.cell? ⟨b, off + i * 2 + 1, none⟩ = some (.int .i64 fs[i].2) ∧ fs[i].1.length ≤ c ∧ c ≤ maxLen ∧ RdI w B fs[i].1 := by
  obtain ⟨b, off, cs, rfl, hbb, ⟨A1, c1, rfl, h1, h2, h3, -⟩, hcell⟩ := h.at_ hi
  exact ⟨b, off, A1, c1, rfl, hbb, hcell 0 _ rfl, hcell 1 _ rfl, h1, h2, h3⟩
set_option maxHeartbeats 1000000 in
set_option maxRecDepth 10000 in
theorem validForms_any (A : Option Addr) (c : Nat) (n : Int) (fs : List (List Int × Int)) (w : World) (hc : fs.length ≤ 9223372036854775807) (hr : RdE eltForm w A fs) :
    Calls Tryz.prog 40 #[.int .i64 n, .slice A fs.length c] w fun e w' => e = .returned (.bool (validFs n fs)) ∧ Up w w' := by
  have HD := Lib.hid (fun W => validDim_any n W)
  have HE : Hid (validFs n fs = (dimI n && decide (fs.length ≤ 120) && fs.all (validF n))) := Lib.hid rfl
  rcases h1 : dimI n with _ | _
  · rw [h1] at HE HD
    clear h1
    go_enter Tryz.func40, Tryz.ntmps40
    go_wp2_with fail
    refine Calls.mono (HD.out _) ?_
    rintro e w1 ⟨rfl, hu⟩
    have HU1 := Lib.hid hu
    clear hu
    go_wp2
    go_ret
    exact ⟨by rw [HE.out]; rfl, by (repeat (first | exact Below.refl _ _ | exact Hid.out (by assumption) | refine Up.trans ?_ (Up.drew _) | refine Up.trans ?_ (Up.drewN _ _) | refine Up.trans ?_ (Up.alloc _ _) | refine Up.trans ?_ (Hid.out (by assumption))))⟩
  rw [h1] at HE HD
  clear h1
  by_cases h2 : fs.length ≤ 120
  · have HE2 : Hid (validFs n fs = fs.all (validF n)) := Lib.hid (by rw [HE.out]; simp [h2])
    have i1 : ¬ (120 : Int) < (fs.length : Int) := by omega
    clear HE h2
    go_enter Tryz.func40, Tryz.ntmps40
    go_wp2_with fail
    refine Calls.mono (HD.out _) ?_
    rintro e w1 ⟨rfl, hu⟩
    have HU1 := Lib.hid hu
    clear hu
    go_wp2
    go_loopw [17] (fun i wr => ∃ k : Nat, k ≤ fs.length ∧ i = .int .i64 k ∧ Hid ((fs.take k).all (validF n) = true) ∧ Hid (Up w1 wr)) (fun i _ => fs.length - (intOf i).toNat)
    case atStart => exact ⟨0, by omega, rfl, Lib.hid rfl, Lib.hid (Up.refl _)⟩
    case round =>
      obtain ⟨k, hk, rfl, HK, HUR⟩ := hrel
      by_cases hkl : k < fs.length
      · obtain ⟨b, off, B, c', rfl, hbb, c0, c1, h3, h4, h5⟩ := (hr.up (show Up w wr by (repeat (first | exact Below.refl _ _ | exact Hid.out (by assumption) | refine Up.trans ?_ (Up.drew _) | refine Up.trans ?_ (Up.drewN _ _) | refine Up.trans ?_ (Up.alloc _ _) | refine Up.trans ?_ (Hid.out (by assumption)))))).f hkl
        have HI := Lib.hid (fun W (hu : Up wr W) => validForm_any B c' n fs[k] W (Nat.le_trans h3 h4) (h5.up hu))
        have HNEXT : Hid ((fs.take (k + 1)).all (validF n) = validF n fs[k]) := Lib.hid (by
          rw [List.take_succ_eq_append_getElem hkl, List.all_append, HK.out]; simp)
        have HFALSE : Hid (validF n fs[k] = false → fs.all (validF n) = false) := Lib.hid (fun h => by
          rw [List.all_eq_false]
          exact ⟨fs[k], List.getElem_mem hkl, by simp [h]⟩)
        clear h3 h4 h5
        generalize fs[k] = f at *
        have HUY := Lib.hid (Up.alloc wr (.cells #[.slice B f.1.length c', .int .i64 f.2] 28))
        go_wp2_with fail
        refine Calls.mono (HI.out _ HUY.out) ?_
        rintro e w3 ⟨rfl, hu⟩
        have HU3 := Lib.hid hu
        clear hu c0 c1 hbb
        rcases h4 : validF n f with _ | _
        · have HF := Lib.hid (HFALSE.out h4)
          clear h4 HNEXT HFALSE
          go_wp2
          go_ret
          exact ⟨by rw [HE2.out, HF.out]; rfl, by (repeat (first | exact Below.refl _ _ | exact Hid.out (by assumption) | refine Up.trans ?_ (Up.drew _) | refine Up.trans ?_ (Up.drewN _ _) | refine Up.trans ?_ (Up.alloc _ _) | refine Up.trans ?_ (Hid.out (by assumption))))⟩
        · rw [h4] at HNEXT
          clear h4 HFALSE
          go_wp2_with fail
          exact ⟨⟨k + 1, by omega, by simp, HNEXT, Lib.hid (by (repeat (first | exact Below.refl _ _ | exact Hid.out (by assumption) | refine Up.trans ?_ (Up.drew _) | refine Up.trans ?_ (Up.drewN _ _) | refine Up.trans ?_ (Up.alloc _ _) | refine Up.trans ?_ (Hid.out (by assumption)))))⟩, by simp [intOf]; omega⟩
      · have HA2 : Hid (fs.all (validF n) = true) := Lib.hid (by
          have := HK.out
          rwa [List.take_of_length_le (by omega)] at this)
        go_wp2
        go_ret
        exact ⟨by rw [HE2.out, HA2.out]; rfl, by (repeat (first | exact Below.refl _ _ | exact Hid.out (by assumption) | refine Up.trans ?_ (Up.drew _) | refine Up.trans ?_ (Up.drewN _ _) | refine Up.trans ?_ (Up.alloc _ _) | refine Up.trans ?_ (Hid.out (by assumption))))⟩
  · have HE2 : Hid (validFs n fs = false) := Lib.hid (by rw [HE.out]; simp [h2])
    have i1 : (120 : Int) < (fs.length : Int) := by omega
    clear HE h2
    go_enter Tryz.func40, Tryz.ntmps40
    go_wp2_with fail
    refine Calls.mono (HD.out _) ?_
    rintro e w1 ⟨rfl, hu⟩
    have HU1 := Lib.hid hu
    clear hu
    go_wp2
    go_ret
    exact ⟨by rw [HE2.out]; rfl, by (repeat (first | exact Below.refl _ _ | exact Hid.out (by assumption) | refine Up.trans ?_ (Up.drew _) | refine Up.trans ?_ (Up.drewN _ _) | refine Up.trans ?_ (Up.alloc _ _) | refine Up.trans ?_ (Hid.out (by assumption))))⟩
end Go.Proofs.YtacbjbnocepnaaaGreatDoor
namespace Go.Proofs.YtacbjbnocepnaaaGreatDoor
open Go.RowKit Fm
def toF (n : Nat) (r : List Int) : List Int × Int := (r.take n, r.getD n 0)
def EchRes (w w' : World) (n : Nat) (S : Sys) (e : Ending) : Prop :=
  ∃ v b er, e = .returned (.tuple #[v, .bool b, .int .i64 er]) ∧
    (if (S.getD n none).isNone = false then v = .slice none 0 0 ∧ b = false ∧ er = 0
     else if (rowsR n S).all (fun r => r.all limI) = true then (∃ A c, v = .slice A (rowsR n S).length c ∧ (rowsR n S).length ≤ c ∧ c ≤ maxLen ∧ RdE eltForm w' A ((rowsR n S).map (toF n)) ∧ ∀ b off, A = some ⟨b, off, none⟩ → w.heap.size ≤ b) ∧ b = true ∧ er = 0
     else v = .slice none 0 0 ∧ b = false ∧ er = 3)
theorem SysV.var {w : World} {arr : Array Value} {n : Nat} {S : Sys} (h : SysV w arr n S) : SysB (w.alloc (.cells arr 93)) w.heap.size n S := by
  refine ⟨arr, heap_alloc_new w _, h.1, h.2.1, h.2.2.1, fun c hc => ?_⟩
  obtain ⟨A, m, k, e1, e2⟩ := h.2.2.2 c hc
  exact ⟨A, m, k, e1, (e2 _ (Nat.le_refl _)).up (Up.alloc _ _)⟩
theorem validFs_all {n : Int} {fs : List (List Int × Int)} (h : validFs n fs = true) : 0 ≤ n ∧ n ≤ 8 ∧ fs.length ≤ 120 ∧ ∀ f, f ∈ fs → FormR n.toNat f := by
  simp only [validFs, dimI, Bool.and_eq_true, decide_eq_true_eq, List.all_eq_true] at h
  refine ⟨h.1.1.1, h.1.1.2, h.1.2, fun f hf => ?_⟩
  have hv := h.2 f hf
  simp only [validF, limI, dimI, Bool.and_eq_true, decide_eq_true_eq, List.all_eq_true] at hv
  refine ⟨by omega, fun y hy => ?_, by omega, by omega⟩
  have := hv.2 y hy
  omega
theorem new_cellsE (w : World) (cs : List Value) (t : TypeId) (g : Nat) (hg : g = w.heap.size) (j : Nat) (u : Value) (h : cs[j]? = some u) : (w.alloc (.cells cs.toArray t)).cell? ((⟨g, 0, none⟩ : Addr).add j) = some u := by
  subst hg; exact new_cells w cs t j u h
theorem rows_len {n : Nat} {S : Sys} (h : Ech n S) : ∀ r, r ∈ rowsR n S → r.length = n + 1 := by
  intro r hr
  unfold rowsR at hr
  obtain ⟨c, hc, rfl⟩ := List.mem_map.1 hr
  unfold leadR at hc
  have h2 := (List.mem_filter.1 hc).2
  cases hp : S.getD c none with
  | none => rw [hp] at h2; cases h2
  | some p => exact (h.2 c p hp).len
theorem info_form : (Tryz.prog.info? 28).map (fun i => (i.zero, i.size, i.bytes)) = some (some (.agg #[.slice none 0 0, .int .i64 0]), 2, 32) := by kernel_rfl
theorem zform_nod : ∀ u ∈ (Value.agg #[.slice none 0 0, .int .i64 0]).cells.toList, NoDig u := by
  intro u hu
  simp [Value.cells] at hu
  rcases hu with rfl | rfl
  · exact NoDig.slice _ _ _
  · exact NoDig.int _
theorem eltForm_none {w : World} {o : Option Nat} {cs : List Value} {f : List Int × Int} (h : eltForm.rel w o cs f) : eltForm.rel w none cs f := by
  obtain ⟨A, c, rfl, h1, h2, h3, -⟩ := h
  exact ⟨A, c, rfl, h1, h2, h3, fun g hg => by cases hg⟩
set_option maxHeartbeats 4000000 in
set_option maxRecDepth 10000 in
theorem echelon_ok (A : Option Addr) (c n : Nat) (fs : List (List Int × Int)) (w : World) (hc : fs.length ≤ 9223372036854775807) (hr : RdE eltForm w A fs) (hv : validFs n fs = true) (ht : Tab w) :
    Calls Tryz.prog 13 #[.int .i64 n, .slice A fs.length c] w fun e w' => EchRes w w' n (sysR n (fs.map rowF)) e ∧ Up w w' := by
  obtain ⟨-, hn8, h120, hall⟩ := validFs_all hv
  have hn : n ≤ 8 := by omega
  have HV := Lib.hid (fun W (hu : Up w W) => validForms_any A c n fs W hc (hr.up hu))
  rw [hv] at HV
  have HSO := Lib.hid (fun W (hu : Up w W) => linSystemOf_any A c n fs W (by omega) (by omega) (hr.up hu) (by simpa using hall) (ht.up hu))
  have HECH := Lib.hid (sysR_ech n 2 (by omega) (fs.map rowF) (fun r hr => by
    obtain ⟨f, hf1, rfl⟩ := List.mem_map.1 hr
    have := (hall f hf1).bd
    simpa using this))
  generalize sysR n (fs.map rowF) = S at *
  clear hr hv hall ht h120 hn8
  go_enter Tryz.func13, Tryz.ntmps13
  go_wp2_with fail
  refine Calls.mono (HV.out _ (by (repeat (first | exact Below.refl _ _ | exact Hid.out (by assumption) | refine Up.trans ?_ (Up.drew _) | refine Up.trans ?_ (Up.drewN _ _) | refine Up.trans ?_ (Up.alloc _ _) | refine Up.trans ?_ (Hid.out (by assumption)))))) ?_
  rintro e w1 ⟨rfl, hu⟩
  have HU1 := Lib.hid hu
  clear hu
  go_wp2_with fail
  refine Calls.mono (HSO.out _ (by (repeat (first | exact Below.refl _ _ | exact Hid.out (by assumption) | refine Up.trans ?_ (Up.drew _) | refine Up.trans ?_ (Up.drewN _ _) | refine Up.trans ?_ (Up.alloc _ _) | refine Up.trans ?_ (Hid.out (by assumption)))))) ?_
  rintro e w2 ⟨arr, rfl, hs, hu⟩
  have HU2 := Lib.hid hu
  have HS2 := Lib.hid hs.var
  have HUA := Lib.hid (Up.alloc w2 (.cells arr 93))
  obtain ⟨A0, m0, k0, A1, m1, k1, A2, m2, k2, A3, m3, k3, A4, m4, k4, A5, m5, k5, A6, m6, k6, A7, m7, k7, A8, m8, k8, A9, m9, k9, rfl⟩ := hs.open_
  clear hu hs
  go_wp2_with fail
  generalize w2.alloc (.cells #[.int .i64 n, .slice A0 m0 k0, .slice A1 m1 k1, .slice A2 m2 k2, .slice A3 m3 k3, .slice A4 m4 k4, .slice A5 m5 k5, .slice A6 m6 k6, .slice A7 m7 k7, .slice A8 m8 k8, .slice A9 m9 k9] 93) = w3 at *
  obtain ⟨g, hg⟩ : ∃ g, g = w2.heap.size := ⟨_, rfl⟩
  rw [← hg] at HS2 ⊢
  clear hg
  have HSV := Lib.hid (fun W (hu : Up w3 W) => sysSolvable_any g n S W (by omega) (HS2.out.up hu))
  refine Calls.mono (HSV.out _ (Up.refl _)) ?_
  rintro e w4 ⟨rfl, hu⟩
  have HU4 := Lib.hid hu
  clear hu
  rcases hsol : (S.getD n none).isNone with _ | _
  · have HSOL := Lib.hid hsol
    clear hsol
    go_wp2
    refine bodyPost_ret (by simp [results, Tryz.results13, go_sem]; try rfl) rfl ?_
    exact ⟨⟨_, _, _, rfl, by rw [if_pos HSOL.out]; exact ⟨rfl, rfl, rfl⟩⟩, by (repeat (first | exact Below.refl _ _ | exact Hid.out (by assumption) | refine Up.trans ?_ (Up.drew _) | refine Up.trans ?_ (Up.drewN _ _) | refine Up.trans ?_ (Up.alloc _ _) | refine Up.trans ?_ (Hid.out (by assumption))))⟩
  · have HSOL := Lib.hid hsol
    have HRW := Lib.hid (fun W (hu : Up w3 W) => sysRows_any g n S W (by omega) (HS2.out.up hu))
    clear hsol
    go_wp2_with fail
    refine Calls.mono (HRW.out _ (by (repeat (first | exact Below.refl _ _ | exact Hid.out (by assumption) | refine Up.trans ?_ (Up.drew _) | refine Up.trans ?_ (Up.drewN _ _) | refine Up.trans ?_ (Up.alloc _ _) | refine Up.trans ?_ (Hid.out (by assumption)))))) ?_
    rintro e w5 ⟨A5, c5, rfl, h1, h2, hrd, hu⟩
    have HU5 := Lib.hid hu
    have hrlen : (rowsR n S).length ≤ 9223372036854775807 := Nat.le_trans h1 h2
    clear hu h1 h2
    go_wp2
    go_loopw [8, 24] (fun v i wr => ∃ k : Nat, k ≤ (rowsR n S).length ∧ i = .int .i64 k ∧ Hid (((rowsR n S).take k).all (fun r => r.all limI) = true) ∧ Hid (OwE eltForm w5 wr 28 v (((rowsR n S).take k).map (toF n))) ∧ Hid (Up w5 wr)) (fun _ i _ => (rowsR n S).length - (intOf i).toNat)
    case atStart => exact ⟨0, by omega, rfl, Lib.hid rfl, Lib.hid (OwE.nil _ _ _ _), Lib.hid (Up.refl _)⟩
    case round =>
      obtain ⟨i, hi, rfl, HK, HOW, HU⟩ := hrel
      by_cases hil : i < (rowsR n S).length
      · obtain ⟨b, off, B, c', rfl, hbb, c0, h3, h4, h5⟩ := (hrd.up HU.out).at_ hil
        have hrl := rows_len HECH.out (rowsR n S)[i] (List.getElem_mem hil)
        have HNEXT : Hid (((rowsR n S).take (i + 1)).map (toF n) = ((rowsR n S).take i).map (toF n) ++ [toF n (rowsR n S)[i]]) := Lib.hid (by rw [List.take_succ_eq_append_getElem hil, List.map_append]; rfl)
        have HKN : Hid (((rowsR n S).take (i + 1)).all (fun r => r.all limI) = (rowsR n S)[i].all limI) := Lib.hid (by
          rw [List.take_succ_eq_append_getElem hil, List.all_append, HK.out]; simp)
        have HFALSE : Hid ((rowsR n S)[i].all limI = false → (rowsR n S).all (fun r => r.all limI) = false) := Lib.hid (fun h => by
          rw [List.all_eq_false]
          exact ⟨(rowsR n S)[i], List.getElem_mem hil, by rw [h]; simp⟩)
        have HLEN : Hid ((((rowsR n S).take i).map (toF n)).length ≤ 1000000000) := Lib.hid (by
          have hl : (rowsR n S).length ≤ 1000000 := by
            have := List.length_filter_le (fun c => (S.getD c none).isSome) (List.range n)
            rw [List.length_range] at this
            unfold rowsR leadR; rw [List.length_map]; omega
          rw [List.length_map, List.length_take]; omega)
        generalize (rowsR n S)[i] = r at *
        have HFO := Lib.hid (fun W (hu : Up wr W) => rowForm_any B c' n r W (by omega) hrl (h5.up hu))
        rw [hrl] at c0 HFO
        clear h3 h4 h5
        go_wp2_with fail
        refine Calls.mono (HFO.out _ (Up.refl _)) ?_
        rintro e w6 ⟨⟨A6, m6, c6, x6, rfl, hF, hT⟩, hu⟩
        have HU6 := Lib.hid hu
        clear hu c0 hbb
        rcases hall : r.all limI with _ | _
        · have HF := Lib.hid (HFALSE.out hall)
          clear hall HKN HFALSE hF hT
          go_wp2
          refine bodyPost_ret (by simp [results, Tryz.results13, go_sem]; try rfl) rfl ?_
          exact ⟨⟨_, _, _, rfl, by rw [if_neg (by rw [HSOL.out]; simp), if_neg (by rw [HF.out]; simp)]; exact ⟨rfl, rfl, rfl⟩⟩, by (repeat (first | exact Below.refl _ _ | exact Hid.out (by assumption) | refine Up.trans ?_ (Up.drew _) | refine Up.trans ?_ (Up.drewN _ _) | refine Up.trans ?_ (Up.alloc _ _) | refine Up.trans ?_ (Hid.out (by assumption))))⟩
        · obtain ⟨e1, e2, e3, e4, e5⟩ := hT hall
          subst e1
          have HX6 := Lib.hid e3
          have HUY := Lib.hid (Up.alloc w6 (.cells #[.slice A6 m6 c6, .int .i64 x6] 28))
          have HREL := Lib.hid (fun w' (hu' : Up w6 w') => show eltForm.rel w' (Value.ownBlock u8) [.slice A6 m6 c6, .int .i64 x6] (toF m6 r) from ⟨A6, c6, by simp [toF, hrl, HX6.out], by simp [toF, e2, hrl], by rw [e2]; unfold maxLen; omega, e4.up hu', fun g2 hg2 _ b9 off9 e9 => by
            have := e5 b9 off9 e9
            have := HOW.out.lt g2 hg2
            omega⟩)
          rw [hall] at HKN
          clear hall HFALSE hF hT e2 e3 e4 e5
          have HCF := Lib.hid (CellF.new w6 A6 m6 c6 x6)
          go_wp2_with (at_builtin; refine wpList_pushE eltForm w5 rfl (.tmp 35) (.tmp 37) 22 28 rfl _ 32 Tryz.underlying22 info_form rfl zform_nod (by decide) _ _ rfl (HOW.out.up (HU6.out.trans (HUY.out.trans (Up.alloc _ _)))) (by (repeat (first | exact Below.refl _ _ | exact Hid.out (by assumption) | refine Up.trans ?_ (Up.drew _) | refine Up.trans ?_ (Up.drewN _ _) | refine Up.trans ?_ (Up.alloc _ _) | refine Up.trans ?_ (Hid.out (by assumption))))) ⟨w6.heap.size + 1, 0, none⟩ rfl [.slice A6 m6 c6, .int .i64 x6] (toF m6 r) (new_cellsE (w6.alloc (.cells #[.slice A6 m6 c6, .int .i64 x6] 28)) [.slice A6 m6 c6, .int .i64 x6] _ _ (size_alloc _ _).symm) (HREL.out _ (by (repeat (first | exact Below.refl _ _ | exact Hid.out (by assumption) | refine Up.trans ?_ (Up.drew _) | refine Up.trans ?_ (Up.drewN _ _) | refine Up.trans ?_ (Up.alloc _ _) | refine Up.trans ?_ (Hid.out (by assumption)))))) HLEN.out ?_; intro v' w' hown' hup')
          exact ⟨⟨i + 1, by omega, by simp, HKN, by rw [HNEXT.out]; exact Lib.hid hown', Lib.hid hup'⟩, by simp [intOf]; omega⟩
      · have hie : i = (rowsR n S).length := by omega
        subst hie
        rw [List.take_length] at HOW HK
        obtain ⟨A6, c6, hv6, k1, k2, k3, k4⟩ := HOW.out.read eltForm_none
        rw [List.length_map] at hv6 k1
        have HR := Lib.hid (And.intro k1 (And.intro k2 (And.intro k3 k4)))
        rw [hv6]
        clear hv6 k1 k2 k3 k4
        go_wp2
        refine bodyPost_ret (by simp [results, Tryz.results13, go_sem]; try rfl) rfl ?_
        exact ⟨⟨_, _, _, rfl, by rw [if_neg (by rw [HSOL.out]; simp), if_pos HK.out]; exact ⟨⟨A6, c6, rfl, HR.out.1, HR.out.2.1, HR.out.2.2.1, fun b off e => Nat.le_trans (show Up w w5 by (repeat (first | exact Below.refl _ _ | exact Hid.out (by assumption) | refine Up.trans ?_ (Up.drew _) | refine Up.trans ?_ (Up.drewN _ _) | refine Up.trans ?_ (Up.alloc _ _) | refine Up.trans ?_ (Hid.out (by assumption))))).size (HR.out.2.2.2 b off e)⟩, rfl, rfl⟩⟩, by (repeat (first | exact Below.refl _ _ | exact Hid.out (by assumption) | refine Up.trans ?_ (Up.drew _) | refine Up.trans ?_ (Up.drewN _ _) | refine Up.trans ?_ (Up.alloc _ _) | refine Up.trans ?_ (Hid.out (by assumption))))⟩
end Go.Proofs.YtacbjbnocepnaaaGreatDoor

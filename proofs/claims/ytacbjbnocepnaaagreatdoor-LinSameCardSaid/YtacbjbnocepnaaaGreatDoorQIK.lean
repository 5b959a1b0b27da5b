/- Contract of the reference's elimination. -/
import Derived.Test.YtacbjbnocepnaaaGreatDoorQIF
import Derived.Deep.RegionWith
import Derived.Deep.RegionHeld3
import Derived.Deep.CutBlock
namespace Go.Proofs.YtacbjbnocepnaaaGreatDoor
open Go.RowKit Fm
theorem solvedF_len : ∀ (k : Nat) (l : List (List Int × Int)), (solvedF k l).1.length ≤ l.length ∧ (solvedF k l).2.length ≤ k := by
  intro k
  induction k with
  | zero => intro l; exact ⟨Nat.le_refl _, Nat.le_refl _⟩
  | succ k ih =>
    intro l
    obtain ⟨h1, h2⟩ := ih l
    rw [solvedF_next]
    unfold stepF
    split
    · exact ⟨h1, by omega⟩
    · refine ⟨?_, ?_⟩
      · show ((List.eraseIdx _ _).map _).length ≤ _
        rw [List.length_map]
        exact Nat.le_trans (List.length_eraseIdx_le _ _) h1
      · show (List.map _ _ ++ [_]).length ≤ _
        rw [List.length_append, List.length_map]
        simp; omega
def SolvedRes (w' : World) (n : Nat) (fs : List (List Int × Int)) (e : Ending) : Prop :=
  if (solvedF n fs).1.all (fun r => decide (r.2 = 0)) = true then ∃ A c, e = .returned (.tuple #[.slice A (solvedF n fs).2.length c, .bool true]) ∧ RdE eltW w' A (solvedF n fs).2 ∧ (solvedF n fs).2.length ≤ c ∧ c ≤ maxLen
  else e = .returned (.tuple #[.slice none 0 0, .bool false])
set_option maxHeartbeats 8000000 in
set_option maxRecDepth 10000 in
theorem refSolved_any (A : Option Addr) (c n : Nat) (fs : List (List Int × Int)) (w : World) (hn : n ≤ 8) (hfs : fs.length ≤ 1000000) (hr : RdE eltW w A fs) (hok : RowsOk n 0 3 (fs, [])) :
    Calls Tryz.prog 56 #[.int .i64 n, .slice A fs.length c] w fun e w' => SolvedRes w' n fs e ∧ Up w w' := by
  have HOK := Lib.hid (fun k (hk : k ≤ n) => solvedF_small hok hn hk)
  have HFL : Hid (fs.length ≤ 1000000) := Lib.hid hfs
  have HSRC := Lib.hid (rdE_src hr (Up.alloc w (.cells #[] 59)) (Nat.le_refl _))
  have HE0 := Lib.hid (OwP.empty none w)
  have HU0 := Lib.hid (Up.alloc w (.cells #[] 59))
  clear hr hok
  go_enter Tryz.func56, Tryz.ntmps56
  go_wp2_with (at_builtin; refine wpList_pushV none w rfl (.tmp 17) (.tmp 18) 82 rfl Tryz.underlying82 _ [] rfl HE0.out HU0.out (fun e => by cases e) A fs.length c fs rfl rfl HSRC.out (by have := HFL.out; simp; omega) ?_; intro v1 w1 hown hnn hup)
  have HT0 : Hid (Two w w1 v1 (.slice none 0 0) (solvedF 0 fs).1 (solvedF 0 fs).2) := Lib.hid ⟨hown, OwP.nil _ _ _ _ _, fun g _ e => by cases e⟩
  have HU1 := Lib.hid hup
  clear hown hnn hup HSRC HE0 HU0
  go_loopw [6, 7, 21] (fun v6 v7 i wr => ∃ k : Nat, k ≤ n ∧ i = .int .i64 k ∧ Hid (Two w wr v6 v7 (solvedF k fs).1 (solvedF k fs).2) ∧ Hid (Up w wr)) (fun _ _ i _ => n - (intOf i).toNat)
  case atStart => exact ⟨0, by omega, rfl, HT0, HU1⟩
  case round =>
    obtain ⟨k, hk, rfl, HTW, HU⟩ := hrel
    clear HT0 HU1
    have HRO := Lib.hid (HOK.out k hk)
    by_cases hkn : k < n
    · have HNX : Hid (solvedF (k + 1) fs = stepF k (solvedF k fs)) := Lib.hid (solvedF_next k fs)
      have HLS : Hid ((solvedF k fs).1.length ≤ 1000000) := Lib.hid (Nat.le_trans (solvedF_len k fs).1 HFL.out)
      have HLY : Hid ((solvedF k fs).2.length ≤ 1000000) := Lib.hid (by have := (solvedF_len k fs).2; omega)
      generalize solvedF k fs = st at *
      obtain ⟨A6, c6, h6, hl6, hm6⟩ := HTW.out.one.len
      subst h6
      obtain ⟨A7, c7, h7, hl7, hm7⟩ := HTW.out.two.len
      subst h7
      obtain ⟨rs, ys⟩ := st
      simp only at HTW HRO HNX HLS HLY hl6 hl7
      have HM6 : Hid (c6 ≤ maxLen) := Lib.hid hm6
      have HL6 : Hid (rs.length ≤ c6) := Lib.hid hl6
      have HM7 : Hid (ys.length ≤ c7 ∧ c7 ≤ maxLen) := Lib.hid ⟨by simpa using hl7, hm7⟩
      clear hm6 hl6 hm7 hl7
      go_upto_block 2 with fail
      generalize wr = wo at *
      go_cut [9] (fun s9 wx => s9 = .int .i64 (atI k rs) ∧ Up wo wx)
      case first =>
       as_aux_lemma =>
        go_step
        go_loopw [9, 26] (fun s9 i wx => s9 = .int .i64 (-1) ∧ ∃ j : Nat, j ≤ rs.length ∧ i = .int .i64 j ∧ Hid ((rs.take j).all (fun r => decide (r.1.getD k 0 = 0)) = true) ∧ Hid (Up wo wx)) (fun _ i _ => rs.length - (intOf i).toNat)
        case atStart => exact ⟨rfl, 0, by omega, rfl, Lib.hid rfl, Lib.hid (Up.refl _)⟩
        case round =>
          obtain ⟨rfl, j, hj, rfl, HAL, HX⟩ := hrel
          by_cases hjl : j < rs.length
          · obtain ⟨g6, rfl, -, -, hlt6, -, B, kk, c1, s1, b1, B2, n2, c2, rfl, hrel6, e0, e1, e2, e3⟩ := (HTW.out.one.up HX.out).rowAt hjl
            obtain ⟨hr1, -, -⟩ := HRO.out.one _ (List.getElem_mem hjl)
            have hkl : k < rs[j].1.length := by omega
            obtain ⟨A', c', s', b', A2', n2', c2', e, q1, q2, q3, q4⟩ := eltW_row hrel6.1
            cases e
            obtain ⟨b9, off, cs, rfl, hbb, ⟨t1, d1, D1, m1, j1, rfl, hz⟩, hcell⟩ := q3.at_ hkl
            have f0 := hcell 0 _ rfl
            have f1 := hcell 1 _ rfl
            have f2 := hcell 2 _ rfl
            simp only [eltR, Nat.add_zero] at f0 f1 f2
            have hgd : rs[j].1.getD k 0 = rs[j].1[k] := by rw [List.getD_eq_getElem?_getD, List.getElem?_eq_getElem hkl]; rfl
            have HNZ : Hid (rs[j].1[k] ≠ 0 → atI k rs = (j : Int)) := Lib.hid (fun h => atI_some hjl HAL.out (by rw [hgd]; exact h))
            have HZN : Hid (rs[j].1[k] = 0 → (rs.take (j + 1)).all (fun r => decide (r.1.getD k 0 = 0)) = true) := Lib.hid (fun h => atI_next hjl HAL.out (by rw [hgd]; exact h))
            have HSG := Lib.hid (fun W (hu : Up wr W) => refSign_any _ _ W (hz.ri.up hu))
            have HUB := Lib.hid (Up.alloc wr (.cells #[.slice (some ⟨b9, off, none⟩) rs[j].1.length c1, .int .i64 s1, .bool b1, .slice B2 n2 c2] 59))
            clear hcell hz q1 q2 q3 q4 hrel6 hgd
            generalize rs[j].1[k] = z at *
            rw [hr1] at e0 HUB
            clear hkl hr1
            have i0 : (0 : Int) ≤ (k : Int) := by omega
            have hjb : j ≤ 1000000 := by have := HLS.out; omega
            by_cases hz0 : z = 0
            · subst hz0
              have HT := Lib.hid (HZN.out rfl)
              rw [Int.sign_zero] at HSG
              clear HNZ HZN
              go_wp2_with fail
              refine Calls.mono (HSG.out _ HUB.out) ?_
              rintro e w5 ⟨rfl, hu⟩
              have HU5 := Lib.hid hu
              clear hu
              go_wp2_with fail
              exact ⟨⟨rfl, j + 1, by omega, by simp, HT, Lib.hid (by (repeat (first | exact Below.refl _ _ | exact Hid.out (by assumption) | refine Up.trans ?_ (Up.drew _) | refine Up.trans ?_ (Up.drewN _ _) | refine Up.trans ?_ (Up.alloc _ _) | refine Up.trans ?_ (Hid.out (by assumption)))))⟩, by simp [intOf]; omega⟩
            · have HT := Lib.hid (HNZ.out hz0)
              have hs : ¬ z.sign = 0 := fun h => hz0 (Int.sign_eq_zero_iff_zero.1 h)
              generalize z.sign = K at *
              clear HNZ HZN hz0
              go_wp2_with fail
              refine Calls.mono (HSG.out _ HUB.out) ?_
              rintro e w5 ⟨rfl, hu⟩
              have HU5 := Lib.hid hu
              clear hu
              go_wp2
              go_meet
              exact ⟨by rw [HT.out], by (repeat (first | exact Below.refl _ _ | exact Hid.out (by assumption) | refine Up.trans ?_ (Up.drew _) | refine Up.trans ?_ (Up.drewN _ _) | refine Up.trans ?_ (Up.alloc _ _) | refine Up.trans ?_ (Hid.out (by assumption))))⟩
          · have hje : j = rs.length := by omega
            subst hje
            have HT := Lib.hid (atI_none HAL.out)
            go_wp2
            go_meet
            exact ⟨by rw [HT.out], HX.out⟩
      case rest =>
       as_aux_lemma =>
        obtain ⟨rfl, hu⟩ := hcut
        have HUC := Lib.hid hu
        clear hu
        have HTC := Lib.hid (HTW.out.up HUC.out)
        have HUWC := Lib.hid (HU.out.trans HUC.out)
        clear HTW HU HUC
        rcases hfi : rs.findIdx? (fun r => decide (r.1.getD k 0 ≠ 0)) with _ | a
        · have HST : Hid (solvedF (k + 1) fs = (rs, ys)) := Lib.hid (by rw [HNX.out, stepF_no hfi])
          rw [atI_no hfi]
          clear hfi
          go_wp2_with fail
          exact ⟨⟨k + 1, by omega, by simp, by rw [HST.out]; exact HTC, HUWC⟩, by simp [intOf]; omega⟩
        · generalize wc = wd at *
          obtain ⟨ha, hne⟩ := findF_some hfi
          have HST : Hid (solvedF (k + 1) fs = ((rs.eraseIdx a).map (clearF (posF k (primF rs[a])) k), ys.map (clearF (posF k (primF rs[a])) k) ++ [posF k (primF rs[a])])) := Lib.hid (by rw [HNX.out, stepF_of ha hfi])
          obtain ⟨hr1, hr2, hr3⟩ := HRO.out.one _ (List.getElem_mem ha)
          have HPF := Lib.hid (leadF_facts hkn hr1 hr2 hr3 hne)
          rw [atI_of hfi]
          have hab : a ≤ 1000000 := by have := HLS.out; omega
          clear hfi HNX hr2
          go_upto_region 14 with fail
          obtain ⟨g6, rfl, -, -, hlt6, -, B, kk, c1, s1, b1, B2, n2, c2, rfl, hrel6, e0, e1, e2, e3⟩ := HTC.out.one.rowAt ha
          obtain ⟨A', c', s', b', A2', n2', c2', e, q1, q2, q3, q4⟩ := eltW_row hrel6.1
          cases e
          have hb := rowF_rl.1 hr3
          have HPR := Lib.hid (refPrimed_new B B2 c1 c2 n2 k s1 b1 rs[a] wd (by omega) q3 q4 (fun z hz => Nat.le_trans (hb.1 z hz) (by omega)) (Nat.le_trans hb.2 (by omega)) hne)
          have hpl : (primF rs[a]).1.length = n := by rw [primF_length, hr1]
          have hpv : (primF rs[a]).1.getD k 0 ≠ 0 := fun e => hne ((primF_zero (by omega)).1 e)
          have HPB := Lib.hid (primF_rl hr3)
          clear q1 q2 q3 q4 hrel6 hb hr3 hne
          generalize primF rs[a] = q at *
          rw [hr1] at e0 HPR
          clear hr1
          go_wp2_with fail
          refine Calls.mono HPR.out ?_
          rintro e w5 ⟨u, rfl, hq, hu⟩
          have HU5 := Lib.hid hu
          obtain ⟨A5, c5, s5, b5, A8, n5, c8, rfl, ho, hnone, hfresh⟩ := hq.eltO (o := Value.ownBlock (.slice A7 ys.length c7)) (fun g hg => ⟨(HTC.out.two.lt g hg).2, by have := (HTC.out.two.up hu).pat; rw [hg] at this; exact this⟩)
          obtain ⟨A', c', s', b', A2', n2', c2', e, q1, q2, q3, q4⟩ := eltW_row hnone
          cases e
          rw [hpl] at ho hnone ⊢
          have HUB := Lib.hid (Up.alloc w5 (.cells #[.slice A5 n c5, .int .i64 s5, .bool b5, .slice A8 n5 c8] 59))
          have HCQ := Lib.hid (CellQ.new w5 (.slice A5 n c5) (.slice A8 n5 c8) s5 b5)
          have HO := Lib.hid (And.intro (eltW.up ho HUB.out) (eltW.up hnone HUB.out))
          have HGP := Lib.hid (show wd.heap.size ≤ w5.heap.size from hu.size)
          have hkl : k < q.1.length := by omega
          obtain ⟨b9, off, cs, rfl, hbb, ⟨t1, d1, D1, m1, j1, rfl, hz⟩, hcell⟩ := q3.at_ hkl
          have f0 := hcell 0 _ rfl
          have f1 := hcell 1 _ rfl
          have f2 := hcell 2 _ rfl
          simp only [eltR, Nat.add_zero] at f0 f1 f2
          have hgd : q.1.getD k 0 = q.1[k] := by rw [List.getD_eq_getElem?_getD, List.getElem?_eq_getElem hkl]; rfl
          have HSG := Lib.hid (fun W (hu : Up w5 W) => refSign_any _ _ W (hz.ri.up hu))
          have HMI := Lib.hid (fun W (hu : Up w5 W) => refRowMinus_any (some ⟨b9, off, none⟩) A8 c5 n5 c8 s5 b5 q.1 q.2 W (by omega) (q3.up hu) (q4.up hu) (fun z hz => Nat.le_trans ((rowF_rl.1 HPB.out).1 z hz) (by omega)) (Nat.le_trans (rowF_rl.1 HPB.out).2 (by omega)))
          have HFR := Lib.hid hfresh
          rw [hpl] at HMI
          rw [hgd] at hpv
          have HNEG : Hid (q.1[k] < 0 → posF k q = (q.1.map (· * (-1)), q.2 * (-1))) := Lib.hid (fun h => by unfold posF; rw [if_pos (by rw [hgd]; exact h)])
          have HPOS : Hid (0 ≤ q.1[k] → posF k q = q) := Lib.hid (fun h => by unfold posF; rw [if_neg (by rw [hgd]; omega)])
          have HQL := Lib.hid hpl
          clear hcell hz q1 q2 q3 q4 ho hnone hfresh hq hu hgd hpl e0 e1 e2 e3 hlt6
          generalize q.1[k] = z at *
          clear hkl
          have i0 : (0 : Int) ≤ (k : Int) := by omega
          go_upto_region 15 with fail
          obtain ⟨gp, hgp⟩ : ∃ gp, gp = w5.heap.size := ⟨_, rfl⟩
          obtain ⟨wB, hwB⟩ : ∃ wB, wB = w5.alloc (.cells #[.slice (some ⟨b9, off, none⟩) n c5, .int .i64 s5, .bool b5, .slice A8 n5 c8] 59) := ⟨_, rfl⟩
          have HFF := Lib.hid (And.intro ((HUB.out.cells.1 _ _ hbb).trans f0) (And.intro ((HUB.out.cells.1 _ _ hbb).trans f1) ((HUB.out.cells.1 _ _ hbb).trans f2)))
          rw [← hwB] at HFF HCQ HUB HO ⊢
          rw [← hgp] at HCQ HGP ⊢
          clear hwB hgp f0 f1 f2 hbb
          obtain ⟨f0, f1, f2⟩ := HFF.out
          obtain ⟨q0, q1, q2, q3, -, lq⟩ := HCQ.out.facts
          have HKZ := Lib.hid (show (z.sign < 0 → z < 0) ∧ (0 ≤ z.sign → 0 ≤ z) from ⟨fun h => Int.sign_neg_iff.1 h, fun h => by
            rcases Int.lt_or_le z 0 with h2 | h2
            · have := Int.sign_neg_iff.2 h2
              omega
            · exact h2⟩)
          generalize z.sign = K at *
          go_wp2_with fail
          refine Calls.mono (HSG.out _ HUB.out) ?_
          rintro e w6 ⟨rfl, hu⟩
          have HU6 := Lib.hid hu
          have HCQ6 := Lib.hid (HCQ.out.up hu)
          clear hu q0 q1 q2 q3 lq f0 f1 f2
          go_upto_if 53 with fail
          go_cut [12] (fun s12 wx => PBox wd wx (Value.ownBlock (.slice A7 ys.length c7)) n (posF k q) s12 ∧ Up wd wx)
          case first =>
           as_aux_lemma =>
            by_cases hK : K < 0
            · have HPE := Lib.hid (HNEG.out (HKZ.out.1 hK))
              obtain ⟨q0, q1, q2, q3, -, lq⟩ := HCQ6.out.facts
              go_wp2_with fail
              refine Calls.mono (HMI.out _ (HUB.out.trans HU6.out)) ?_
              rintro e w7 ⟨u, rfl, hq, hu⟩
              have HU7 := Lib.hid hu
              have HC67 := Lib.hid ((HU5.out.trans HUB.out).trans (HU6.out.trans hu))
              obtain ⟨A9, c9, s9, b9', A10, n10, c10, rfl, ho, hnone, hfresh⟩ := RowQ.eltO (r := (q.1.map (· * (-1)), q.2 * (-1))) hq (o := Value.ownBlock (.slice A7 ys.length c7)) (fun g hg => ⟨Nat.lt_of_lt_of_le (HTC.out.two.lt g hg).2 ((HU5.out.trans HUB.out).trans HU6.out).size, by have := (HTC.out.two.up HC67.out).pat; rw [hg] at this; exact this⟩)
              have hml : (q.1.map (· * (-1))).length = n := by rw [List.length_map]; exact HQL.out
              simp only [hml] at ho hnone ⊢
              have HCQ7 := Lib.hid (HCQ6.out.up hu)
              clear q0 q1 q2 q3 lq
              obtain ⟨q0, q1, q2, q3, -, lq⟩ := HCQ7.out.facts
              obtain ⟨y0, y1, y2, y3⟩ := HCQ7.out.frz
              have HAW := Lib.hid (show (q.1.map (· * (-1)), q.2 * (-1)).1 ≠ [] → Away A9 gp from fun _ b' off' e e2 => by
                have h2 := hfresh b' off' e
                have h3 := HCQ6.out.lt
                omega)
              have HN1 := Lib.hid (eltW.putRow ho HCQ7.out (fun x e => by cases e) HAW.out (.slice A9 n c9) (fun x e => by cases e) s9 b9' (.slice A10 n10 c10))
              have HN2 := Lib.hid (eltW.putRow hnone HCQ7.out (fun x e => by cases e) HAW.out (.slice A9 n c9) (fun x e => by cases e) s9 b9' (.slice A10 n10 c10))
              have HN3 := Lib.hid (HCQ7.out.put (.slice A9 n c9) s9 b9' (.slice A10 n10 c10))
              have HN4 := Lib.hid (HC67.out.putQ HGP.out (.slice A9 n c9) s9 b9' (.slice A10 n10 c10))
              clear hq hu ho hnone hfresh hml
              go_wp2
              go_meet
              rw [HPE.out]
              exact ⟨⟨gp, A9, c9, s9, b9', A10, n10, c10, rfl, HN3.out, HN1.out, HN2.out, HGP.out⟩, HN4.out⟩
            · have HPE := Lib.hid (HPOS.out (HKZ.out.2 (by omega)))
              have HN1 := Lib.hid (And.intro (eltW.up HO.out.1 HU6.out) (eltW.up HO.out.2 HU6.out))
              have HN4 := Lib.hid ((HU5.out.trans HUB.out).trans HU6.out)
              go_wp2
              go_meet
              rw [HPE.out]
              exact ⟨⟨gp, _, c5, s5, b5, A8, n5, c8, rfl, HCQ6.out, HN1.out.1, HN1.out.2, HGP.out⟩, HN4.out⟩
          case rest =>
           as_aux_lemma =>
            obtain ⟨hpb, hu⟩ := hcut
            generalize wc = wE at *
            have HPB2 := Lib.hid hpb
            have HUE := Lib.hid hu
            have HTE := Lib.hid (HTC.out.up hu)
            have HUWE := Lib.hid (HUWC.out.trans hu)
            obtain ⟨gp, A9, c9, s9, b10, A10, n10, c10, rfl, -, -, -, -⟩ := hpb
            generalize posF k q = p at *
            have HLD := Lib.hid (fun g (hg : Value.ownBlock (.slice A7 ys.length c7) = some g) => (HTC.out.two.lt g hg).2)
            clear hu HKZ HNEG HPOS HPB HQL hpv HMI HSG HU5 HU6 HUB HCQ HCQ6 HFF HO HFR HPR HGP HTC HUWC i0
            go_upto_region 17 with fail
            have i0 : (0 : Int) ≤ (a : Int) := by omega
            have i1 : (a : Int) ≤ (rs.length : Int) := by omega
            have i2 : (a : Int) + 1 ≤ (rs.length : Int) := by omega
            have i3 : IntKind.i64.wrap ((a : Int) + 1) = (a : Int) + 1 := IntWalk.i64_in _ (by omega)
            have i4 : (a : Int) ≤ (c6 : Int) := by have := HL6.out; omega
            have i5 : (0 : Int) ≤ (a : Int) + 1 := by omega
            have i6 : (a : Int) + 1 ≤ (c6 : Int) := by have := HL6.out; omega
            have i7 : (rs.length : Int) ≤ (c6 : Int) := by have := HL6.out; omega
            have i8 : ¬ ((rs.length : Int) < (a : Int) + 1) := by omega
            go_cut [6] (fun s6 wx => OwP (eltV (Value.ownBlock (.slice A7 ys.length c7))) okW wE wx 59 s6 (rs.eraseIdx a) ∧ Up wE wx)
            case first =>
             as_aux_lemma =>
              have HEMP := Lib.hid (fun W' (hu : Up (wE.alloc (.cells #[] 59)) W') => (OwP.empty (Value.ownBlock (.slice A7 ys.length c7)) wE).up hu)
              have HNE : Hid (rs ≠ []) := Lib.hid (fun e => by rw [e] at ha; simp at ha)
              have HER : Hid (rs.eraseIdx a = rs.take a ++ rs.drop (a + 1)) := Lib.hid (List.eraseIdx_eq_take_drop_succ ..)
              have HS1 := Lib.hid (fun W (hu : Up wE W) v (hv : ∀ g', Value.ownBlock v = some g' → wE.heap.size ≤ g') => HTE.out.one.src HNE.out hu v hv 0 a (some ⟨g6, 0, none⟩) (rs.take a) (by simp) (fun _ => by simp))
              have HS2 := Lib.hid (fun W (hu : Up wE W) v (hv : ∀ g', Value.ownBlock v = some g' → wE.heap.size ≤ g') A hA => HTE.out.one.src HNE.out hu v hv (a + 1) rs.length A (rs.drop (a + 1)) (by rw [List.take_of_length_le (by rw [List.length_drop]; omega)]) hA)
              by_cases hc6 : c6 = a + 1
              · have HC6 := Lib.hid hc6
                have : (c6 = a + 1) = True := eq_true hc6
                have : (a + 1 = c6) = True := eq_true hc6.symm
                clear hc6
                go_region_law
                  ((first
                    | (refine step_pushV (Value.ownBlock (.slice A7 ys.length c7)) wE rfl (.tmp 56) (.tmp 59) 82 rfl Tryz.underlying82 _ [] rfl (HEMP.out _ (by (repeat (first | exact Below.refl _ _ | exact Hid.out (by assumption) | refine Up.trans ?_ (Up.drew _) | refine Up.trans ?_ (Up.drewN _ _) | refine Up.trans ?_ (Up.alloc _ _) | refine Up.trans ?_ (Hid.out (by assumption)))))) (by (repeat (first | exact Below.refl _ _ | exact Hid.out (by assumption) | refine Up.trans ?_ (Up.drew _) | refine Up.trans ?_ (Up.drewN _ _) | refine Up.trans ?_ (Up.alloc _ _) | refine Up.trans ?_ (Hid.out (by assumption))))) (fun e => by cases e) _ _ _ (rs.take a) (by rw [List.length_take]; omega) rfl (HS1.out _ (by (repeat (first | exact Below.refl _ _ | exact Hid.out (by assumption) | refine Up.trans ?_ (Up.drew _) | refine Up.trans ?_ (Up.drewN _ _) | refine Up.trans ?_ (Up.alloc _ _) | refine Up.trans ?_ (Hid.out (by assumption))))) _ (fun g' e => by cases e; exact Nat.le_refl _)) (by have := HLS.out; rw [List.length_take]; simp; omega) ?_
                       intro v8 w8 hown8 hnn8 hup8
                       have HO8 := Lib.hid hown8
                       have HN8 := Lib.hid hnn8
                       have HU8 := Lib.hid hup8
                       clear hown8 hnn8 hup8)
                    | (refine step_pushV (Value.ownBlock (.slice A7 ys.length c7)) wE rfl (.tmp 60) (.tmp 64) 82 rfl Tryz.underlying82 v8 _ rfl (HO8.out.up (by (repeat (first | exact Below.refl _ _ | exact Hid.out (by assumption) | refine Up.trans ?_ (Up.drew _) | refine Up.trans ?_ (Up.drewN _ _) | refine Up.trans ?_ (Up.alloc _ _) | refine Up.trans ?_ (Hid.out (by assumption)))))) (by (repeat (first | exact Below.refl _ _ | exact Hid.out (by assumption) | refine Up.trans ?_ (Up.drew _) | refine Up.trans ?_ (Up.drewN _ _) | refine Up.trans ?_ (Up.alloc _ _) | refine Up.trans ?_ (Hid.out (by assumption))))) HN8.out _ _ _ (rs.drop (a + 1)) (by rw [List.length_drop]) rfl (HS2.out _ (by (repeat (first | exact Below.refl _ _ | exact Hid.out (by assumption) | refine Up.trans ?_ (Up.drew _) | refine Up.trans ?_ (Up.drewN _ _) | refine Up.trans ?_ (Up.alloc _ _) | refine Up.trans ?_ (Hid.out (by assumption))))) _ (fun g' e => (HO8.out.lt g' e).1) _ (fun hne => by first | rfl | (exfalso; have h1 := List.length_pos_iff.2 hne; have h2 := HC6.out; have h3 := HL6.out; rw [List.length_drop] at h1; omega))) (by have := HLS.out; rw [List.length_append, List.length_take, List.length_drop]; simp; omega) ?_
                       intro v9 w9 hown9 hnn9 hup9
                       have HO9 := Lib.hid hown9
                       have HU9 := Lib.hid hup9
                       clear hown9 hnn9 hup9)))
                all_goals
                  go_wp2
                  go_meet
                  exact ⟨by rw [HER.out]; exact HO9.out.up (by (repeat (first | exact Below.refl _ _ | exact Hid.out (by assumption) | refine Up.trans ?_ (Up.drew _) | refine Up.trans ?_ (Up.drewN _ _) | refine Up.trans ?_ (Up.alloc _ _) | refine Up.trans ?_ (Hid.out (by assumption))))), by (repeat (first | exact Below.refl _ _ | exact Hid.out (by assumption) | refine Up.trans ?_ (Up.drew _) | refine Up.trans ?_ (Up.drewN _ _) | refine Up.trans ?_ (Up.alloc _ _) | refine Up.trans ?_ (Hid.out (by assumption))))⟩
              · have HC6 := Lib.hid hc6
                have : (c6 = a + 1) = False := eq_false hc6
                have : (a + 1 = c6) = False := eq_false (fun e => hc6 e.symm)
                clear hc6
                go_region_law
                  ((first
                    | (refine step_pushV (Value.ownBlock (.slice A7 ys.length c7)) wE rfl (.tmp 56) (.tmp 59) 82 rfl Tryz.underlying82 _ [] rfl (HEMP.out _ (by (repeat (first | exact Below.refl _ _ | exact Hid.out (by assumption) | refine Up.trans ?_ (Up.drew _) | refine Up.trans ?_ (Up.drewN _ _) | refine Up.trans ?_ (Up.alloc _ _) | refine Up.trans ?_ (Hid.out (by assumption)))))) (by (repeat (first | exact Below.refl _ _ | exact Hid.out (by assumption) | refine Up.trans ?_ (Up.drew _) | refine Up.trans ?_ (Up.drewN _ _) | refine Up.trans ?_ (Up.alloc _ _) | refine Up.trans ?_ (Hid.out (by assumption))))) (fun e => by cases e) _ _ _ (rs.take a) (by rw [List.length_take]; omega) rfl (HS1.out _ (by (repeat (first | exact Below.refl _ _ | exact Hid.out (by assumption) | refine Up.trans ?_ (Up.drew _) | refine Up.trans ?_ (Up.drewN _ _) | refine Up.trans ?_ (Up.alloc _ _) | refine Up.trans ?_ (Hid.out (by assumption))))) _ (fun g' e => by cases e; exact Nat.le_refl _)) (by have := HLS.out; rw [List.length_take]; simp; omega) ?_
                       intro v8 w8 hown8 hnn8 hup8
                       have HO8 := Lib.hid hown8
                       have HN8 := Lib.hid hnn8
                       have HU8 := Lib.hid hup8
                       clear hown8 hnn8 hup8)
                    | (refine step_pushV (Value.ownBlock (.slice A7 ys.length c7)) wE rfl (.tmp 60) (.tmp 64) 82 rfl Tryz.underlying82 v8 _ rfl (HO8.out.up (by (repeat (first | exact Below.refl _ _ | exact Hid.out (by assumption) | refine Up.trans ?_ (Up.drew _) | refine Up.trans ?_ (Up.drewN _ _) | refine Up.trans ?_ (Up.alloc _ _) | refine Up.trans ?_ (Hid.out (by assumption)))))) (by (repeat (first | exact Below.refl _ _ | exact Hid.out (by assumption) | refine Up.trans ?_ (Up.drew _) | refine Up.trans ?_ (Up.drewN _ _) | refine Up.trans ?_ (Up.alloc _ _) | refine Up.trans ?_ (Hid.out (by assumption))))) HN8.out _ _ _ (rs.drop (a + 1)) (by rw [List.length_drop]) rfl (HS2.out _ (by (repeat (first | exact Below.refl _ _ | exact Hid.out (by assumption) | refine Up.trans ?_ (Up.drew _) | refine Up.trans ?_ (Up.drewN _ _) | refine Up.trans ?_ (Up.alloc _ _) | refine Up.trans ?_ (Hid.out (by assumption))))) _ (fun g' e => (HO8.out.lt g' e).1) _ (fun hne => by first | rfl | (exfalso; have h1 := List.length_pos_iff.2 hne; have h2 := HC6.out; have h3 := HL6.out; rw [List.length_drop] at h1; omega))) (by have := HLS.out; rw [List.length_append, List.length_take, List.length_drop]; simp; omega) ?_
                       intro v9 w9 hown9 hnn9 hup9
                       have HO9 := Lib.hid hown9
                       have HU9 := Lib.hid hup9
                       clear hown9 hnn9 hup9)))
                all_goals
                  go_wp2
                  go_meet
                  exact ⟨by rw [HER.out]; exact HO9.out.up (by (repeat (first | exact Below.refl _ _ | exact Hid.out (by assumption) | refine Up.trans ?_ (Up.drew _) | refine Up.trans ?_ (Up.drewN _ _) | refine Up.trans ?_ (Up.alloc _ _) | refine Up.trans ?_ (Hid.out (by assumption))))), by (repeat (first | exact Below.refl _ _ | exact Hid.out (by assumption) | refine Up.trans ?_ (Up.drew _) | refine Up.trans ?_ (Up.drewN _ _) | refine Up.trans ?_ (Up.alloc _ _) | refine Up.trans ?_ (Hid.out (by assumption))))⟩
            case rest =>
             as_aux_lemma =>
              obtain ⟨ho6, hu⟩ := hcut
              generalize wc = wF at *
              have HO6 := Lib.hid ho6
              have HUF := Lib.hid hu
              have HES := Lib.hid (show (∀ r, r ∈ rs.eraseIdx a → r.1.length = n ∧ ∀ z, z ∈ rowF r → rl z ≤ 1023) ∧ (rs.eraseIdx a).length ≤ 1000000 from ⟨fun r hr => ⟨(HRO.out.one r (List.mem_of_mem_eraseIdx hr)).1, (HRO.out.one r (List.mem_of_mem_eraseIdx hr)).2.2⟩, Nat.le_trans (List.length_eraseIdx_le _ _) HLS.out⟩)
              obtain ⟨A8, c8, e8, -, -⟩ := ho6.len
              subst e8
              clear ho6 hu i0 i1 i2 i3 i4 i5 i6 i7 i8
              generalize rs.eraseIdx a = es at *
              go_upto_block 4 with fail
              go_cut [6] (fun s6 wx => s6 = .slice A8 es.length c8 ∧ OwP (eltV (Value.ownBlock (.slice A7 ys.length c7))) okW wE wx 59 (.slice A8 es.length c8) (es.map (clearF p k)) ∧ Up wE wx)
              case first =>
               as_aux_lemma =>
                have HLOOP3 := Lib.hid trivial
                have hes : es.length ≤ 1000000 := HES.out.2
                go_step
                go_loopw [68] (fun i wx => ∃ j : Nat, j ≤ es.length ∧ i = .int .i64 j ∧ Hid (OwP (eltV (Value.ownBlock (.slice A7 ys.length c7))) okW wE wx 59 (.slice A8 es.length c8) (partF (clearF p k) es j)) ∧ Hid (Up wE wx)) (fun i _ => es.length - (intOf i).toNat)
                case atStart => exact ⟨0, by omega, rfl, by rw [partF_zero]; exact HO6, HUF⟩
                case round =>
                  obtain ⟨j, hj, rfl, HO, HU⟩ := hrel
                  by_cases hjl : j < es.length
                  · obtain ⟨g8, rfl, -, hb8, hlt8, hfz, B, kk, c1, s1, b1, B2, n2, c2, hkk, hrel, e0, e1, e2, e3⟩ := HO.out.rowAt (i := j) (by rw [partF_length]; exact hjl)
                    rw [partF_get _ _ _ hjl] at hkk hrel
                    obtain ⟨hr1, hr2⟩ := HES.out.1 _ (List.getElem_mem hjl)
                    have hb := rowF_rl.1 hr2
                    have hbp := rowF_rl.1 HPF.out.2.2.2
                    obtain ⟨gp2, B9, d9, t9, b11, B10, m10, d10, e9, hcq, hp7, hp0, -⟩ := HPB2.out.up HU.out
                    injection e9 with e9
                    injection e9 with e9
                    injection e9 with e9
                    subst e9
                    obtain ⟨hpn, hpr, hpi⟩ := eltW_parts hp0
                    have HCL := Lib.hid (fun W (hu : Up wr W) => refClear_two B B2 B9 B10 c1 c2 n2 kk n d9 d10 m10 k s1 t9 b1 b11 es[j] p W (by omega) hkk hpn (by rw [hr1]; exact HPF.out.1) ((eltV _).up hrel hu) (hpr.up hu) (hpi.up hu) (Nat.lt_of_lt_of_le hlt8 hu.size) (HO.out.up hu).pat (fun g' hg' => ⟨Nat.lt_of_lt_of_le (HTE.out.two.lt g' hg').2 (HU.out.trans hu).size, by have := (HTE.out.two.up (HU.out.trans hu)).pat; rw [hg'] at this; exact this⟩) (by omega) HPF.out.2.1 HPF.out.2.2.1 ⟨fun z hz => Nat.le_trans (hb.1 z hz) (by omega), Nat.le_trans hb.2 (by omega)⟩ ⟨fun z hz => Nat.le_trans (hbp.1 z hz) (by omega), Nat.le_trans hbp.2 (by omega)⟩)
                    have HKK := Lib.hid (hkk.trans hr1)
                    have HST3 := Lib.hid (partF_set (clearF p k) es j hjl)
                    have HG8 := Lib.hid (And.intro hb8 hlt8)
                    rw [hr1] at HCL
                    clear hb hbp hr1 hr2 hpn hpr hpi hp7 hp0 hrel hkk hb8 HLOOP3
                    generalize es[j] = r at *
                    obtain ⟨q0, q1, q2, q3, -, lq⟩ := hcq.facts
                    have HCQ := Lib.hid hcq
                    have hz0 := hfz (j * 4)
                    have hz1 := hfz (j * 4 + 1)
                    have hz2 := hfz (j * 4 + 2)
                    have hz3 := hfz (j * 4 + 3)
                    clear hcq hfz
                    have i0 : (0 : Int) ≤ (j : Int) := by omega
                    have i1 : (j : Int) < (es.length : Int) := by omega
                    go_upto_region 21 with fail
                    go_region_with
                      ((go_at_call 99
                        refine Calls.mono (HCL.out _ (by (repeat (first | exact Below.refl _ _ | exact Hid.out (by assumption) | refine Up.trans ?_ (Up.drew _) | refine Up.trans ?_ (Up.drewN _ _) | refine Up.trans ?_ (Up.alloc _ _) | refine Up.trans ?_ (Hid.out (by assumption)))))) ?_
                        rintro e w5 ⟨A5, c5, s5, b5, A6, n6, c6', rfl, hnew, hu⟩
                        have HU5 := Lib.hid hu
                        have HNEW := Lib.hid hnew
                        have HO5 := Lib.hid (HO.out.up (w' := w5) (by (repeat (first | exact Below.refl _ _ | exact Hid.out (by assumption) | refine Up.trans ?_ (Up.drew _) | refine Up.trans ?_ (Up.drewN _ _) | refine Up.trans ?_ (Up.alloc _ _) | refine Up.trans ?_ (Hid.out (by assumption))))))
                        obtain ⟨g8', e8, -, -, lt5, hfz, X1, X2, X3, X4, X5, X6, X7, X8, -, -, e0, e1, e2, e3⟩ := HO5.out.rowAt (i := j) (by rw [partF_length]; exact hjl)
                        injection e8 with e8
                        injection e8 with e8
                        subst e8
                        have hz0 := hfz (j * 4)
                        have hz1 := hfz (j * 4 + 1)
                        have hz2 := hfz (j * 4 + 2)
                        have hz3 := hfz (j * 4 + 3)
                        clear hfz hu hnew))
                    all_goals
                      have HO9 := Lib.hid (HO5.out.storeV (i := j) (by rw [partF_length]; exact hjl) HNEW.out)
                      rw [HST3.out] at HO9
                      have HU9 := Lib.hid (show Up wE (put4c w5 g8 (j * 4) (.slice A5 n c5) (.int .i64 s5) (.bool b5) (.slice A6 n6 c6')) from Up.put4c (show Up wE w5 by (repeat (first | exact Below.refl _ _ | exact Hid.out (by assumption) | refine Up.trans ?_ (Up.drew _) | refine Up.trans ?_ (Up.drewN _ _) | refine Up.trans ?_ (Up.alloc _ _) | refine Up.trans ?_ (Hid.out (by assumption))))) HG8.out.1 _ _ _ _ _)
                      clear e0 e1 e2 e3 hz0 hz1 hz2 hz3 lt5
                      go_wp2
                      exact ⟨⟨j + 1, by omega, by simp, HO9, HU9⟩, by simp [intOf]; omega⟩
                  · have hje : j = es.length := by omega
                    subst hje
                    rw [partF_all] at HO
                    go_wp2
                    go_meet
                    exact ⟨rfl, HO.out, HU.out⟩
              case rest =>
               as_aux_lemma =>
                obtain ⟨rfl, ho, hu⟩ := hcut
                generalize wc = wG at *
                have HTG : Hid (Two w wG (.slice A8 es.length c8) (.slice A7 ys.length c7) (es.map (clearF p k)) ys) := Lib.hid ⟨ho.weaken HUWE.out.size, HTE.out.two.up hu, fun g hg e => by
                  have h1 := (ho.lt g hg).1
                  have h2 := (HTE.out.two.lt g e).2
                  omega⟩
                have HUWG := Lib.hid (HUWE.out.trans hu)
                have HPG := Lib.hid (HPB2.out.up hu)
                clear ho hu HO6 HUF HTE HPB2 HUE HUWE
                go_upto_block 6 with fail
                go_cut [7] (fun s7 wx => s7 = .slice A7 ys.length c7 ∧ Two w wx (.slice A8 es.length c8) (.slice A7 ys.length c7) (es.map (clearF p k)) (ys.map (clearF p k)) ∧ PBox wd wx (Value.ownBlock (.slice A7 ys.length c7)) n p (.pointer (some ⟨gp, 0, none⟩)) ∧ Up w wx)
                case first =>
                 as_aux_lemma =>
                  have HLOOP4 := Lib.hid trivial
                  have hys : ys.length ≤ 1000000 := HLY.out
                  go_step
                  go_loopw [83] (fun i wx => ∃ j : Nat, j ≤ ys.length ∧ i = .int .i64 j ∧ Hid (Two w wx (.slice A8 es.length c8) (.slice A7 ys.length c7) (es.map (clearF p k)) (partF (clearF p k) ys j)) ∧ Hid (PBox wd wx (Value.ownBlock (.slice A7 ys.length c7)) n p (.pointer (some ⟨gp, 0, none⟩))) ∧ Hid (Up w wx)) (fun i _ => ys.length - (intOf i).toNat)
                  case atStart => exact ⟨0, by omega, rfl, by rw [partF_zero]; exact HTG, HPG, HUWG⟩
                  case round =>
                    obtain ⟨j, hj, rfl, HT, HPX, HU⟩ := hrel
                    by_cases hjl : j < ys.length
                    · obtain ⟨g7, rfl, -, hb7, hlt7, hfz, B, kk, c1, s1, b1, B2, n2, c2, hkk, hrel, e0, e1, e2, e3⟩ := HT.out.two.rowAtW (i := j) (by rw [partF_length]; exact hjl)
                      rw [partF_get _ _ _ hjl] at hkk hrel
                      obtain ⟨hr1, hr2⟩ := HRO.out.two _ (List.getElem_mem hjl)
                      have hb := rowF_rl.1 hr2
                      have hbp := rowF_rl.1 HPF.out.2.2.2
                      obtain ⟨gp2, B9, d9, t9, b11, B10, m10, d10, e9, hcq, hp7, hp0, -⟩ := id HPX.out
                      injection e9 with e9
                      injection e9 with e9
                      injection e9 with e9
                      subst e9
                      obtain ⟨hpn, hpr, hpi⟩ := eltW_parts hp0
                      have HCL := Lib.hid (fun W (hu : Up wr W) => refClear_two B B2 B9 B10 c1 c2 n2 kk n d9 d10 m10 k s1 t9 b1 b11 ys[j] p W (o2 := none) (g := g7) (by omega) hkk hpn (by rw [hr1]; exact HPF.out.1) ⟨eltW.up hrel hu, eltW.up (eltW_none hrel) hu⟩ (hpr.up hu) (hpi.up hu) (Nat.lt_of_lt_of_le hlt7 hu.size) (HT.out.two.up hu).pat (fun g' hg' => by cases hg') (by omega) HPF.out.2.1 HPF.out.2.2.1 ⟨fun z hz => Nat.le_trans (hb.1 z hz) (by omega), Nat.le_trans hb.2 (by omega)⟩ ⟨fun z hz => Nat.le_trans (hbp.1 z hz) (by omega), Nat.le_trans hbp.2 (by omega)⟩)
                      have HST4 := Lib.hid (partF_set (clearF p k) ys j hjl)
                      have HG7 := Lib.hid (And.intro hb7 hlt7)
                      have HGP7 := Lib.hid (show gp ≠ g7 from fun e => by
                        have h1 := HLD.out g7 rfl
                        obtain ⟨gp3, -, -, -, -, -, -, -, e9, -, -, -, h2⟩ := id HPX.out
                        injection e9 with e9
                        injection e9 with e9
                        injection e9 with e9
                        omega)
                      rw [hr1] at HCL
                      have HCQ := Lib.hid hcq
                      obtain ⟨q0, q1, q2, q3, -, lq⟩ := hcq.facts
                      clear hb hbp hr1 hr2 hpn hpr hpi hp7 hp0 hrel hkk hb7 HLOOP4 hcq
                      generalize ys[j] = r at *
                      have hz0 := hfz (j * 4)
                      have hz1 := hfz (j * 4 + 1)
                      have hz2 := hfz (j * 4 + 2)
                      have hz3 := hfz (j * 4 + 3)
                      clear hfz
                      have i0 : (0 : Int) ≤ (j : Int) := by omega
                      have i1 : (j : Int) < (ys.length : Int) := by omega
                      go_upto_region 26 with fail
                      go_region_with
                        ((go_at_call 99
                          refine Calls.mono (HCL.out _ (by (repeat (first | exact Below.refl _ _ | exact Hid.out (by assumption) | refine Up.trans ?_ (Up.drew _) | refine Up.trans ?_ (Up.drewN _ _) | refine Up.trans ?_ (Up.alloc _ _) | refine Up.trans ?_ (Hid.out (by assumption)))))) ?_
                          rintro e w5 ⟨A5, c5, s5, b5, A6, n6, c6', rfl, hnew, hu⟩
                          have HU5 := Lib.hid hu
                          have HNEW := Lib.hid hnew.1
                          have HT5 := Lib.hid (HT.out.up (w' := w5) (by (repeat (first | exact Below.refl _ _ | exact Hid.out (by assumption) | refine Up.trans ?_ (Up.drew _) | refine Up.trans ?_ (Up.drewN _ _) | refine Up.trans ?_ (Up.alloc _ _) | refine Up.trans ?_ (Hid.out (by assumption))))))
                          have HPX5 := Lib.hid (HPX.out.up (w' := w5) (by (repeat (first | exact Below.refl _ _ | exact Hid.out (by assumption) | refine Up.trans ?_ (Up.drew _) | refine Up.trans ?_ (Up.drewN _ _) | refine Up.trans ?_ (Up.alloc _ _) | refine Up.trans ?_ (Hid.out (by assumption))))))
                          obtain ⟨g7', e8, -, -, lt5, hfz, X1, X2, X3, X4, X5, X6, X7, X8, -, -, e0, e1, e2, e3⟩ := HT5.out.two.rowAtW (i := j) (by rw [partF_length]; exact hjl)
                          injection e8 with e8
                          injection e8 with e8
                          subst e8
                          have hz0 := hfz (j * 4)
                          have hz1 := hfz (j * 4 + 1)
                          have hz2 := hfz (j * 4 + 2)
                          have hz3 := hfz (j * 4 + 3)
                          clear hfz hu hnew))
                      all_goals
                        have HT9 := Lib.hid (HT5.out.store (i := j) (by rw [partF_length]; exact hjl) HNEW.out)
                        rw [HST4.out] at HT9
                        have HP9 := Lib.hid (PBox.stored HPX5.out HGP7.out HT5.out.two (j * 4) (.slice A5 n c5) (.int .i64 s5) (.bool b5) (.slice A6 n6 c6'))
                        have HU9 := Lib.hid (show Up w (put4c w5 g7 (j * 4) (.slice A5 n c5) (.int .i64 s5) (.bool b5) (.slice A6 n6 c6')) from Up.put4c (show Up w w5 by (repeat (first | exact Below.refl _ _ | exact Hid.out (by assumption) | refine Up.trans ?_ (Up.drew _) | refine Up.trans ?_ (Up.drewN _ _) | refine Up.trans ?_ (Up.alloc _ _) | refine Up.trans ?_ (Hid.out (by assumption))))) HG7.out.1 _ _ _ _ _)
                        clear e0 e1 e2 e3 hz0 hz1 hz2 hz3 lt5
                        go_wp2
                        exact ⟨⟨j + 1, by omega, by simp, HT9, HP9, HU9⟩, by simp [intOf]; omega⟩
                    · have hje : j = ys.length := by omega
                      subst hje
                      rw [partF_all] at HT
                      go_wp2
                      go_meet
                      exact ⟨rfl, HT.out, HPX.out, HU.out⟩
                case rest =>
                 as_aux_lemma =>
                  obtain ⟨rfl, hT, hP, hu⟩ := hcut
                  generalize wc = wH at *
                  have HTH := Lib.hid hT
                  have HUH := Lib.hid hu
                  obtain ⟨gp2, B9, d9, t9, b11, B10, m10, d10, e9, hcq, hp7, hp0, -⟩ := hP
                  injection e9 with e9
                  injection e9 with e9
                  injection e9 with e9
                  subst e9
                  obtain ⟨q0, q1, q2, q3, -, lq⟩ := hcq.facts
                  have HP7 := Lib.hid (eltW.up hp7 (Up.alloc wH (.cells #[.slice B9 n d9, .int .i64 t9, .bool b11, .slice B10 m10 d10] 59)))
                  have HYL := Lib.hid (show (ys.map (clearF p k)).length ≤ 1000000000 by rw [List.length_map]; exact Nat.le_trans HLY.out (by omega))
                  clear hT hu hcq hp7 hp0 HTG HUWG HPG
                  go_wp2_with (at_builtin; refine wpList_pushX w rfl (.tmp 96) (.tmp 98) 82 rfl Tryz.underlying82 (.slice A8 es.length c8) (.slice A7 ys.length c7) (es.map (clearF p k)) (ys.map (clearF p k)) rfl (HTH.out.up (Up.alloc _ _)) (HUH.out.trans (Up.alloc _ _)) ⟨wH.heap.size, 0, none⟩ rfl [.slice B9 n d9, .int .i64 t9, .bool b11, .slice B10 m10 d10] p (new_cells wH [.slice B9 n d9, .int .i64 t9, .bool b11, .slice B10 m10 d10] _) HP7.out HYL.out ?_; intro v' w' hT' hup')
                  exact ⟨⟨k + 1, by omega, by simp, by rw [HST.out]; exact Lib.hid hT', Lib.hid hup'⟩, by simp [intOf]; omega⟩
    · as_aux_lemma =>
       have hkn : k = n := by omega
       subst hkn
       have HLS : Hid ((solvedF k fs).1.length ≤ 1000000) := Lib.hid (Nat.le_trans (solvedF_len k fs).1 HFL.out)
       obtain ⟨rs, ys, hst⟩ : ∃ rs ys, solvedF k fs = (rs, ys) := ⟨_, _, rfl⟩
       have HST := Lib.hid hst
       rw [hst] at HTW HRO HLS
       clear hst
       simp only at HTW HRO HLS
       obtain ⟨A6, c6, h6, hl6, hm6⟩ := HTW.out.one.len
       subst h6
       obtain ⟨A7, c7, h7, hl7, hm7⟩ := HTW.out.two.len
       subst h7
       have HM7 := Lib.hid (And.intro hl7 hm7)
       clear hm6 hl6 hm7 hl7
       generalize wr = wo at *
       go_wp2_with fail
       go_loopw [103] (fun i wx => ∃ j : Nat, j ≤ rs.length ∧ i = .int .i64 j ∧ Hid ((rs.take j).all (fun r => decide (r.2 = 0)) = true) ∧ Hid (Up wo wx)) (fun i _ => rs.length - (intOf i).toNat)
       case atStart => exact ⟨0, by omega, rfl, Lib.hid rfl, Lib.hid (Up.refl _)⟩
       case round =>
         obtain ⟨j, hj, rfl, HAL, HX⟩ := hrel
         by_cases hjl : j < rs.length
         · obtain ⟨g6, rfl, -, -, hlt6, -, B, kk, c1, s1, b1, B2, n2, c2, hkk, hrel6, e0, e1, e2, e3⟩ := (HTW.out.one.up HX.out).rowAt hjl
           obtain ⟨-, -, hz⟩ := eltW_parts hrel6.1
           have HSG := Lib.hid (fun W (hu : Up wr W) => refSign_any _ _ W (hz.up hu))
           have HUB := Lib.hid (Up.alloc wr (.cells #[.slice B kk c1, .int .i64 s1, .bool b1, .slice B2 n2 c2] 59))
           have HNZ : Hid (rs[j].2 ≠ 0 → ¬ rs.all (fun r => decide (r.2 = 0)) = true) := Lib.hid (fun h e => by
             rw [List.all_eq_true] at e
             have := e _ (List.getElem_mem hjl)
             exact h (by simpa using this))
           have HZN : Hid (rs[j].2 = 0 → (rs.take (j + 1)).all (fun r => decide (r.2 = 0)) = true) := Lib.hid (fun h => by
             rw [List.take_succ_eq_append_getElem hjl, List.all_append, HAL.out]
             simp only [List.all_cons, List.all_nil, Bool.and_true, Bool.true_and, decide_eq_true_eq]
             exact h)
           have hjb : j ≤ 1000000 := by have := HLS.out; omega
           clear hz hrel6 hkk
           generalize rs[j].2 = z at *
           by_cases hz0 : z = 0
           · subst hz0
             have HT := Lib.hid (HZN.out rfl)
             rw [Int.sign_zero] at HSG
             clear HNZ HZN
             go_wp2_with fail
             refine Calls.mono (HSG.out _ HUB.out) ?_
             rintro e w5 ⟨rfl, hu⟩
             have HU5 := Lib.hid hu
             clear hu
             go_wp2_with fail
             exact ⟨⟨j + 1, by omega, by simp, HT, Lib.hid (by (repeat (first | exact Below.refl _ _ | exact Hid.out (by assumption) | refine Up.trans ?_ (Up.drew _) | refine Up.trans ?_ (Up.drewN _ _) | refine Up.trans ?_ (Up.alloc _ _) | refine Up.trans ?_ (Hid.out (by assumption)))))⟩, by simp [intOf]; omega⟩
           · have HT := Lib.hid (HNZ.out hz0)
             have hs : ¬ z.sign = 0 := fun h => hz0 (Int.sign_eq_zero_iff_zero.1 h)
             generalize z.sign = K at *
             clear HNZ HZN hz0
             go_wp2_with fail
             refine Calls.mono (HSG.out _ HUB.out) ?_
             rintro e w5 ⟨rfl, hu⟩
             have HU5 := Lib.hid (HU.out.trans ((HX.out.trans HUB.out).trans hu))
             clear hu
             go_wp2
             refine bodyPost_ret (by simp [results, Tryz.results56, go_sem]; try rfl) rfl ?_
             refine ⟨?_, HU5.out⟩
             unfold SolvedRes
             rw [HST.out, if_neg HT.out]
         · have hje : j = rs.length := by omega
           subst hje
           rw [List.take_length] at HAL
           obtain ⟨A9, c9, e9, -, -, h3, -⟩ := (HTW.out.two.up HX.out).1.read eltW_none
           cases e9
           have H3 := Lib.hid h3
           have HUF := Lib.hid (HU.out.trans HX.out)
           clear h3
           go_wp2
           refine bodyPost_ret (by simp [results, Tryz.results56, go_sem]; try rfl) rfl ?_
           refine ⟨?_, HUF.out⟩
           unfold SolvedRes
           rw [HST.out, if_pos HAL.out]
           exact ⟨A7, c7, rfl, H3.out, HM7.out.1, HM7.out.2⟩
end Go.Proofs.YtacbjbnocepnaaaGreatDoor

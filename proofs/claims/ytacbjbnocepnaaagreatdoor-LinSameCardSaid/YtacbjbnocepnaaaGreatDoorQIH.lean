/- Contracts of the reference's comparison of rows and of its rows as forms. -/
import Derived.Test.YtacbjbnocepnaaaGreatDoorQIA
import Derived.Deep.RegionWith
import Derived.Test.YtacbjbnocepnaaaGreatDoorQIE
import Derived.Test.YtacbjbnocepnaaaGreatDoorQHT2
import Derived.Test.YtacbjbnocepnaaaGreatDoorQHL
namespace Go.Proofs.YtacbjbnocepnaaaGreatDoor
open Go.RowKit Fm
end Go.Proofs.YtacbjbnocepnaaaGreatDoor
namespace Go.Proofs.YtacbjbnocepnaaaGreatDoor
open Go.RowKit Fm
def FormsRes (w' : World) (fs : List (List Int × Int)) (e : Ending) : Prop :=
  ∃ v er, e = .returned (.tuple #[v, .int .i64 er]) ∧ if fs.all (fun f => f.1.all limI && limI f.2) = true then (∃ A c, v = .slice A fs.length c ∧ fs.length ≤ c ∧ c ≤ maxLen ∧ RdE eltForm w' A fs) ∧ er = 0 else v = .slice none 0 0 ∧ er = 3
set_option maxHeartbeats 4000000 in
set_option maxRecDepth 10000 in
theorem refForms_any (A : Option Addr) (c : Nat) (fs : List (List Int × Int)) (w : World) (hn : fs.length ≤ 1000000) (h8 : ∀ f, f ∈ fs → f.1.length ≤ 8) (hr : RdE eltW w A fs) :
    Calls Tryz.prog 57 #[.slice A fs.length c] w fun e w' => FormsRes w' fs e ∧ Up w w' := by
  go_enter Tryz.func57, Tryz.ntmps57
  go_wp2
  go_loopw [4, 11] (fun v i wr => ∃ k : Nat, k ≤ fs.length ∧ i = .int .i64 k ∧ Hid ((fs.take k).all (fun f => f.1.all limI && limI f.2) = true) ∧ Hid (OwE eltForm w wr 28 v (fs.take k)) ∧ Hid (Up w wr)) (fun _ i _ => fs.length - (intOf i).toNat)
  case atStart => exact ⟨0, by omega, rfl, Lib.hid rfl, Lib.hid (OwE.nil _ _ _ _), Lib.hid (Up.refl _)⟩
  case round =>
    obtain ⟨i, hi, rfl, HK, HOW, HU⟩ := hrel
    by_cases hil : i < fs.length
    · obtain ⟨b9, off, cs, rfl, hbb, ⟨A5, c5, s5, b5, A6, n6, c6, rfl, h1, h2, h3, h4⟩, hcell⟩ := (hr.up HU.out).at_ hil
      have e0 := hcell 0 _ rfl
      have e1 := hcell 1 _ rfl
      have e2 := hcell 2 _ rfl
      have e3 := hcell 3 _ rfl
      simp only [eltW, Nat.add_zero] at e0 e1 e2 e3
      have HNEXT : Hid (fs.take (i + 1) = fs.take i ++ [fs[i]]) := Lib.hid (by rw [List.take_succ_eq_append_getElem hil])
      have HKN : Hid ((fs.take (i + 1)).all (fun f => f.1.all limI && limI f.2) = (fs[i].1.all limI && limI fs[i].2)) := Lib.hid (by
        rw [List.take_succ_eq_append_getElem hil, List.all_append, HK.out]; simp)
      have HFALSE : Hid ((fs[i].1.all limI && limI fs[i].2) = false → ¬ fs.all (fun f => f.1.all limI && limI f.2) = true) := Lib.hid (fun h => by
        rw [Bool.not_eq_true, List.all_eq_false]
        exact ⟨fs[i], List.getElem_mem hil, by rw [h]; simp⟩)
      have HLEN : Hid ((fs.take i).length ≤ 1000000000) := Lib.hid (by rw [List.length_take]; omega)
      have HL8 := Lib.hid (h8 _ (List.getElem_mem hil))
      have HRR := Lib.hid (And.intro h3.rd h4.ri)
      clear hcell h1 h2 h3 h4
      generalize fs[i] = f at *
      obtain ⟨zs, x⟩ := f
      simp only at HNEXT HKN HFALSE HL8 HRR e0 e1 e2 e3
      have HUB := Lib.hid (Up.alloc wr (.cells #[.slice A5 zs.length c5, .int .i64 s5, .bool b5, .slice A6 n6 c6] 59))
      rcases hall : (zs.all limI && limI x) with _ | _
      · have HF := Lib.hid (HFALSE.out hall)
        have HFO := Lib.hid (fun W (hu : Up wr W) => refFrom_bad A5 A6 c5 c6 n6 s5 b5 zs x W HL8.out (HRR.out.1.up hu) (HRR.out.2.up hu) hall)
        clear hall HKN HFALSE
        go_wp2_with fail
        refine Calls.mono (HFO.out _ HUB.out) ?_
        rintro e w6 ⟨rfl, hu⟩
        have HU6 := Lib.hid hu
        clear hu hbb
        go_wp2
        refine bodyPost_ret (by simp [results, Tryz.results57, go_sem]; try rfl) rfl ?_
        exact ⟨⟨_, _, rfl, by rw [if_neg HF.out]; exact ⟨rfl, rfl⟩⟩, by (repeat (first | exact Below.refl _ _ | exact Hid.out (by assumption) | refine Up.trans ?_ (Up.drew _) | refine Up.trans ?_ (Up.drewN _ _) | refine Up.trans ?_ (Up.alloc _ _) | refine Up.trans ?_ (Hid.out (by assumption))))⟩
      · have hall2 : zs.all limI = true ∧ limI x = true := by simpa only [Bool.and_eq_true] using hall
        have HFO := Lib.hid (fun W (hu : Up wr W) => refFrom_form A5 A6 c5 c6 n6 s5 b5 zs x W HL8.out (HRR.out.1.up hu) (HRR.out.2.up hu) hall2.1 hall2.2)
        rw [hall] at HKN
        clear hall hall2 HFALSE
        go_wp2_with fail
        refine Calls.mono (HFO.out _ HUB.out) ?_
        rintro e w6 ⟨A7, rfl, hri, haw, hu⟩
        have HU6 := Lib.hid hu
        have HRI := Lib.hid (And.intro hri haw)
        clear hu hbb hri haw
        have HUY := Lib.hid (Up.alloc w6 (.cells #[.slice A7 zs.length zs.length, .int .i64 x] 28))
        have HREL := Lib.hid (fun w' (hu' : Up w6 w') => show eltForm.rel w' (Value.ownBlock u4) [.slice A7 zs.length zs.length, .int .i64 x] (zs, x) from ⟨A7, zs.length, rfl, Nat.le_refl _, by have := HL8.out; unfold maxLen; omega, HRI.out.1.up hu', fun g2 hg2 _ b9 off9 e9 => by
          have := HRI.out.2 b9 off9 e9
          have := HOW.out.lt g2 hg2
          have := HUB.out.size
          omega⟩)
        have HCF := Lib.hid (CellF.new w6 A7 zs.length zs.length x)
        generalize hzl : zs.length = zl at *
        clear hzl
        go_wp2_with (at_builtin; refine wpList_pushE eltForm w rfl (.tmp 22) (.tmp 24) 22 28 rfl _ 32 Tryz.underlying22 info_form rfl zform_nod (by decide) _ _ rfl (HOW.out.up ((HUB.out.trans HU6.out).trans (HUY.out.trans (Up.alloc _ _)))) (by (repeat (first | exact Below.refl _ _ | exact Hid.out (by assumption) | refine Up.trans ?_ (Up.drew _) | refine Up.trans ?_ (Up.drewN _ _) | refine Up.trans ?_ (Up.alloc _ _) | refine Up.trans ?_ (Hid.out (by assumption))))) ⟨w6.heap.size + 1, 0, none⟩ rfl [.slice A7 zl zl, .int .i64 x] (zs, x) (new_cellsE (w6.alloc (.cells #[.slice A7 zl zl, .int .i64 x] 28)) [.slice A7 zl zl, .int .i64 x] _ _ (size_alloc _ _).symm) (HREL.out _ (by (repeat (first | exact Below.refl _ _ | exact Hid.out (by assumption) | refine Up.trans ?_ (Up.drew _) | refine Up.trans ?_ (Up.drewN _ _) | refine Up.trans ?_ (Up.alloc _ _) | refine Up.trans ?_ (Hid.out (by assumption)))))) HLEN.out ?_; intro v' w' hown' hup')
        exact ⟨⟨i + 1, by omega, by simp, HKN, by rw [HNEXT.out]; exact Lib.hid hown', Lib.hid hup'⟩, by simp [intOf]; omega⟩
    · have hie : i = fs.length := by omega
      subst hie
      rw [List.take_length] at HOW HK
      obtain ⟨A6, c6, hv6, k1, k2, k3, k4⟩ := HOW.out.read eltForm_none
      have HR := Lib.hid (And.intro k1 (And.intro k2 (And.intro k3 k4)))
      rw [hv6]
      clear hv6 k1 k2 k3 k4
      go_wp2
      refine bodyPost_ret (by simp [results, Tryz.results57, go_sem]; try rfl) rfl ?_
      exact ⟨⟨_, _, rfl, by rw [if_pos HK.out]; exact ⟨⟨A6, c6, rfl, HR.out.1, HR.out.2.1, HR.out.2.2.1⟩, rfl⟩⟩, by (repeat (first | exact Below.refl _ _ | exact Hid.out (by assumption) | refine Up.trans ?_ (Up.drew _) | refine Up.trans ?_ (Up.drewN _ _) | refine Up.trans ?_ (Up.alloc _ _) | refine Up.trans ?_ (Hid.out (by assumption))))⟩
end Go.Proofs.YtacbjbnocepnaaaGreatDoor

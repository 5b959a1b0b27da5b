/- Walks of a law. -/
import Derived.Test.YtgcmogldiahdpaaGreatDoorGTxt3
import Derived.Deep.RegionWith
import Derived.IntWalk
namespace Go.Proofs.YtgcmogldiahdpaaGreatDoor
open Go.RowKit Fm

/-- Whether a text consists of digits, at least one. -/
def longOk (ds : List UInt8) : Bool := !ds.isEmpty && ds.all isDig
/-- What Long answers beside the flag. -/
def LongRes (ds : List UInt8) (w : World) (v : Value) : Prop := ∃ z : Int, RI w v z ∧ (longOk ds = true → z = (val10 0 ds : Nat))
/-- The loop's state. -/
def LongSt (w : World) (g : Nat) (q : Int) (wr : World) : Prop :=
  ∃ (s : Int) (b : Bool) (A : Option Addr) (n c : Nat), CellI wr g s b (.slice A n c) ∧ RI wr (.agg #[.int .i64 s, .bool b, .slice A n c]) q ∧ Res3 wr w.heap.size ∧ Up w wr
theorem Res3.far3 {w : World} {g : Nat} (h : Res3 w g) {g' : Nat} (hne : g ≠ g') (x y z : Value) : Res3 (put3 w g' x y z) g := h.far hne x y z

set_option maxHeartbeats 4000000 in
set_option maxRecDepth 10000 in
theorem refLong_any (ds : List UInt8) (w : World) (hl : ds.length ≤ 400) :
    Calls Tryz.prog 68 #[.string ⟨ds.toArray⟩] w fun e w' => ∃ v : Value, e = .returned (.tuple #[v, .bool (longOk ds)]) ∧ LongRes ds w' v ∧ Up w w' := by
  have HO0 := Lib.hid (fun W => refOf_any 0 W (by omega) (by omega))
  have HO10 := Lib.hid (fun W => refOf_any 10 W (by omega) (by omega))
  go_enter Tryz.func68, Tryz.ntmps68
  go_wp2_with fail
  have HR := Lib.hid (Res3.new w)
  have HU := Lib.hid (Up.alloc w (.cells #[.int .i64 0, .bool false, .slice none 0 0] 61))
  generalize w.alloc (.cells #[.int .i64 0, .bool false, .slice none 0 0] 61) = wB at *
  refine Calls.mono (HO0.out _) ?_
  rintro e w1 ⟨v, rfl, hv, hu⟩
  have HU1 := Lib.hid hu
  have HV1 := Lib.hid hv
  obtain ⟨s5, g5, A5, n5, k5, rfl, -⟩ := hv
  clear hu
  go_wp2_with fail
  obtain ⟨wC, hwC⟩ : ∃ wC, wC = w1.alloc (.cells #[.int .i64 s5, .bool g5, .slice A5 n5 k5] 61) := ⟨_, rfl⟩
  have HUC := Lib.hid (show Up w1 wC by rw [hwC]; exact Up.alloc _ _)
  have HST : Hid (LongSt w w1.heap.size ((val10 0 (ds.take 0) : Nat) : Int) wC) := Lib.hid ⟨_, _, _, _, _, by rw [hwC]; exact CellI.new _ _ _ _, HV1.out.up HUC.out, HR.out.up (by (repeat (first | exact Below.refl _ _ | exact Go.RowKit.Hid.out (by assumption) | refine Up.trans ?_ (Up.drew _) | refine Up.trans ?_ (Up.drewN _ _) | refine Up.trans ?_ (Up.alloc _ _) | refine Up.trans ?_ (Go.RowKit.Hid.out (by assumption))))), by (repeat (first | exact Below.refl _ _ | exact Go.RowKit.Hid.out (by assumption) | refine Up.trans ?_ (Up.drew _) | refine Up.trans ?_ (Up.drewN _ _) | refine Up.trans ?_ (Up.alloc _ _) | refine Up.trans ?_ (Go.RowKit.Hid.out (by assumption))))⟩
  have hg1 : w.heap.size < w1.heap.size := Nat.lt_of_lt_of_le HR.out.lt (show Up wB w1 by (repeat (first | exact Below.refl _ _ | exact Go.RowKit.Hid.out (by assumption) | refine Up.trans ?_ (Up.drew _) | refine Up.trans ?_ (Up.drewN _ _) | refine Up.trans ?_ (Up.alloc _ _) | refine Up.trans ?_ (Go.RowKit.Hid.out (by assumption))))).size
  rw [← hwC]
  clear hwC HV1
  go_loopw [5] (fun i wr => ∃ k : Nat, k ≤ ds.length ∧ i = .int .i64 k ∧ Hid ((ds.take k).all isDig = true) ∧ Hid (LongSt w w1.heap.size ((val10 0 (ds.take k) : Nat) : Int) wr)) (fun i _ => ds.length - (intOf i).toNat)
  case atStart => exact ⟨0, by omega, rfl, Lib.hid rfl, HST⟩
  case round =>
    obtain ⟨k, hk, rfl, HAL, HS⟩ := hrel
    obtain ⟨s0, b0, A0, n0, c0', hcn, hiv, hres, hup⟩ := HS.out
    have HCN := Lib.hid hcn
    have HIV := Lib.hid hiv
    have HRES := Lib.hid hres
    have HUP := Lib.hid hup
    clear HST HR HU HU1 HUC HS
    by_cases hkl : k < ds.length
    · obtain ⟨x, hx⟩ : ∃ x : UInt8, x = ds[k] := ⟨_, rfl⟩
      have hbx : (ByteArray.mk ds.toArray)[k]'(by show k < ds.toArray.size; simpa using hkl) = x := by rw [hx]; rfl
      have hxl : x.toNat < 256 := x.toNat_lt
      by_cases hdg : 48 ≤ x.toNat ∧ x.toNat ≤ 57
      · have hnx := take_next10 ds k hkl
        rw [← hx] at hnx
        have HALN : Hid ((ds.take (k + 1)).all isDig = true) := Lib.hid (by
          rw [List.take_succ_eq_append_getElem hkl, List.all_append, HAL.out, ← hx]
          unfold isDig
          simp [hdg])
        have hvk := val10_lt (ds.take k) HAL.out
        rw [List.length_take, Nat.min_eq_left (by omega)] at hvk
        have hb0 := Nat.le_trans (rl_val10 hvk) (show k ≤ 400 by omega)
        have hb1 : rl (((val10 0 (ds.take k) : Nat) : Int) * 10) ≤ 403 := rl_mul hb0 (rl_int (by omega) (by omega)) (by omega)
        have hx48 : ((x.toNat : Int) - 48) % 256 = ((x.toNat - 48 : Nat) : Int) := by omega
        have hnew : ((val10 0 (ds.take k) : Nat) : Int) * 10 + ((x.toNat - 48 : Nat) : Int) = ((val10 0 (ds.take (k + 1)) : Nat) : Int) := by rw [hnx]; push_cast; omega
        have HOX := Lib.hid (fun W => refOf_any ((x.toNat - 48 : Nat) : Int) W (by omega) (by omega))
        have HT := Lib.hid (fun W u1 u2 (k1 : RI W u1 ((val10 0 (ds.take k) : Nat) : Int)) (k2 : RI W u2 10) => refTimes_any u1 u2 _ _ W k1 k2 (Nat.le_trans hb0 (by omega)) (Nat.le_trans (rl_int (z := 10) (by omega) (by omega)) (by omega)))
        have HPL := Lib.hid (fun W u1 u2 (k1 : RI W u1 (((val10 0 (ds.take k) : Nat) : Int) * 10)) (k2 : RI W u2 ((x.toNat - 48 : Nat) : Int)) => refPlus_any u1 u2 _ _ W k1 k2 (Nat.le_trans hb1 (by omega)) (Nat.le_trans (rl_int (by omega) (by omega)) (by omega)))
        rw [hnew] at HPL
        have i0 : (0 : Int) ≤ (k : Int) := by omega
        have i1 : (k : Int) < (ds.length : Int) := by omega
        have i2 : ¬ (x.toNat : Int) < 48 := by omega
        have i3 : ¬ (57 : Int) < (x.toNat : Int) := by omega
        clear hvk hb0 hb1 hnew hnx hx hcn hiv hres hup
        obtain ⟨X, hX⟩ : ∃ X : Nat, X = x.toNat - 48 := ⟨_, rfl⟩
        rw [← hX] at hx48 HOX HPL
        obtain ⟨c0, c1, c2, lc⟩ := (HCN.out.up (w' := wr) (by (repeat (first | exact Below.refl _ _ | exact Go.RowKit.Hid.out (by assumption) | refine Up.trans ?_ (Up.drew _) | refine Up.trans ?_ (Up.drewN _ _) | refine Up.trans ?_ (Up.alloc _ _) | refine Up.trans ?_ (Go.RowKit.Hid.out (by assumption)))))).facts
        have hX9 : X ≤ 9 := by omega
        clear hX
        have hw1 : IntKind.u8.wrap ((x.toNat : Int) - 48) = (X : Int) := by rw [IntKind.wrap_u8]; exact hx48
        have hw2 : IntKind.i64.wrap (X : Int) = (X : Int) := IntWalk.i64_in _ (by omega)
        go_upto_region 7 with fail
        go_region_with
          ((first
            | (go_at_call 109
               refine Calls.mono (HPL.out _ _ _ (HVw6.out.up (by (repeat (first | exact Below.refl _ _ | exact Go.RowKit.Hid.out (by assumption) | refine Up.trans ?_ (Up.drew _) | refine Up.trans ?_ (Up.drewN _ _) | refine Up.trans ?_ (Up.alloc _ _) | refine Up.trans ?_ (Go.RowKit.Hid.out (by assumption)))))) (HVw7.out.up (by (repeat (first | exact Below.refl _ _ | exact Go.RowKit.Hid.out (by assumption) | refine Up.trans ?_ (Up.drew _) | refine Up.trans ?_ (Up.drewN _ _) | refine Up.trans ?_ (Up.alloc _ _) | refine Up.trans ?_ (Go.RowKit.Hid.out (by assumption))))))) ?_
               rintro e w8 ⟨v, rfl, hv, hu⟩
               have HUw8 := Lib.hid hu
               have HVw8 := Lib.hid hv
               obtain ⟨s6, g6, A6, n6, k6, rfl, -⟩ := hv
               clear hu
               have HZ := Lib.hid (HCN.out.up (w' := w8) (by (repeat (first | exact Below.refl _ _ | exact Go.RowKit.Hid.out (by assumption) | refine Up.trans ?_ (Up.drew _) | refine Up.trans ?_ (Up.drewN _ _) | refine Up.trans ?_ (Up.alloc _ _) | refine Up.trans ?_ (Go.RowKit.Hid.out (by assumption))))))
               obtain ⟨c0, c1, c2, lc⟩ := HZ.out.facts
               have f0 := HZ.out.frozen 0
               have f1 := HZ.out.frozen 1
               have f2 := HZ.out.frozen 2)
            | (have HGUARD := HVw6; go_at_call 107
               refine Calls.mono (HOX.out _) ?_
               rintro e w7 ⟨v, rfl, hv, hu⟩
               have HUw7 := Lib.hid hu
               have HVw7 := Lib.hid hv
               clear hu hv
               obtain ⟨c0, c1, c2, lc⟩ := (HCN.out.up (w' := w7) (by (repeat (first | exact Below.refl _ _ | exact Go.RowKit.Hid.out (by assumption) | refine Up.trans ?_ (Up.drew _) | refine Up.trans ?_ (Up.drewN _ _) | refine Up.trans ?_ (Up.alloc _ _) | refine Up.trans ?_ (Go.RowKit.Hid.out (by assumption)))))).facts)
            | (go_at_call 108
               refine Calls.mono (HT.out _ _ _ (HIV.out.up (by (repeat (first | exact Below.refl _ _ | exact Go.RowKit.Hid.out (by assumption) | refine Up.trans ?_ (Up.drew _) | refine Up.trans ?_ (Up.drewN _ _) | refine Up.trans ?_ (Up.alloc _ _) | refine Up.trans ?_ (Go.RowKit.Hid.out (by assumption)))))) (HVw5.out.up (by (repeat (first | exact Below.refl _ _ | exact Go.RowKit.Hid.out (by assumption) | refine Up.trans ?_ (Up.drew _) | refine Up.trans ?_ (Up.drewN _ _) | refine Up.trans ?_ (Up.alloc _ _) | refine Up.trans ?_ (Go.RowKit.Hid.out (by assumption))))))) ?_
               rintro e w6 ⟨v, rfl, hv, hu⟩
               have HUw6 := Lib.hid hu
               have HVw6 := Lib.hid hv
               clear hu hv
               obtain ⟨c0, c1, c2, lc⟩ := (HCN.out.up (w' := w6) (by (repeat (first | exact Below.refl _ _ | exact Go.RowKit.Hid.out (by assumption) | refine Up.trans ?_ (Up.drew _) | refine Up.trans ?_ (Up.drewN _ _) | refine Up.trans ?_ (Up.alloc _ _) | refine Up.trans ?_ (Go.RowKit.Hid.out (by assumption)))))).facts)
            | (go_at_call 107
               refine Calls.mono (HO10.out _) ?_
               rintro e w5 ⟨v, rfl, hv, hu⟩
               have HUw5 := Lib.hid hu
               have HVw5 := Lib.hid hv
               clear hu hv
               obtain ⟨c0, c1, c2, lc⟩ := (HCN.out.up (w' := w5) (by (repeat (first | exact Below.refl _ _ | exact Go.RowKit.Hid.out (by assumption) | refine Up.trans ?_ (Up.drew _) | refine Up.trans ?_ (Up.drewN _ _) | refine Up.trans ?_ (Up.alloc _ _) | refine Up.trans ?_ (Go.RowKit.Hid.out (by assumption)))))).facts)))
        all_goals
          have HSN : Hid (LongSt w w1.heap.size ((val10 0 (ds.take (k + 1)) : Nat) : Int) (put3 w8 w1.heap.size (.int .i64 s6) (.bool g6) (.slice A6 n6 k6))) := Lib.hid ⟨_, _, _, _, _, HZ.out.set _ _ _, HVw8.out.putI HZ.out _ _ _, (HRES.out.up (w' := w8) (by (repeat (first | exact Below.refl _ _ | exact Go.RowKit.Hid.out (by assumption) | refine Up.trans ?_ (Up.drew _) | refine Up.trans ?_ (Up.drewN _ _) | refine Up.trans ?_ (Up.alloc _ _) | refine Up.trans ?_ (Go.RowKit.Hid.out (by assumption)))))).far3 (by omega) _ _ _, Up.put3 (show Up w w8 by (repeat (first | exact Below.refl _ _ | exact Go.RowKit.Hid.out (by assumption) | refine Up.trans ?_ (Up.drew _) | refine Up.trans ?_ (Up.drewN _ _) | refine Up.trans ?_ (Up.alloc _ _) | refine Up.trans ?_ (Go.RowKit.Hid.out (by assumption))))) (by omega) _ _ _⟩
          clear HVw8 HVw7 HVw6 HVw5
          go_wp2
          exact ⟨⟨k + 1, hkl, by simp, HALN, HSN⟩, by simp [intOf]; omega⟩
      · have HNO : Hid (longOk ds = false) := Lib.hid (by
          unfold longOk
          rw [Bool.and_eq_false_iff]
          right
          rw [List.all_eq_false]
          exact ⟨ds[k], List.getElem_mem hkl, by rw [← hx]; unfold isDig; simpa using hdg⟩)
        have HF := Lib.hid (hres.stored (.int .i64 s0) (.bool b0) (.slice A0 n0 c0'))
        have HRI := Lib.hid (hiv.put hres (.int .i64 s0) (.bool b0) (.slice A0 n0 c0'))
        have HUF := Lib.hid (hup.put3 (show w.heap.size ≤ w.heap.size by omega) (.int .i64 s0) (.bool b0) (.slice A0 n0 c0'))
        obtain ⟨c0, c1, c2, lc⟩ := hcn.facts
        obtain ⟨r0, r1, r2, f0, f1, f2, lr⟩ := hres.facts
        clear hcn hiv hres hup hx
        by_cases hlo : x.toNat < 48
        · have i2 : (x.toNat : Int) < 48 := by omega
          clear hdg hxl hlo
          go_wp2
          obtain ⟨z0, z1, z2⟩ := HF.out
          refine bodyPost_ret (by simp [results, Tryz.results68, go_sem, z0, z1, z2]; try rfl) rfl ?_
          refine ⟨_, ?_, ⟨((val10 0 (ds.take k) : Nat) : Int), HRI.out, fun h => ?_⟩, HUF.out⟩
          · rw [HNO.out]
          · rw [HNO.out] at h; cases h
        · have i2 : ¬ (x.toNat : Int) < 48 := by omega
          have i3 : (57 : Int) < (x.toNat : Int) := by omega
          have i4 : decide ((x.toNat : Int) < 48) = false := decide_eq_false i2
          clear hdg hxl hlo
          go_wp2
          obtain ⟨z0, z1, z2⟩ := HF.out
          refine bodyPost_ret (by simp [results, Tryz.results68, go_sem, z0, z1, z2]; try rfl) rfl ?_
          refine ⟨_, ?_, ⟨((val10 0 (ds.take k) : Nat) : Int), HRI.out, fun h => ?_⟩, HUF.out⟩
          · rw [HNO.out]
          · rw [HNO.out] at h; cases h
    · have hke : k = ds.length := by omega
      subst hke
      rw [List.take_of_length_le (Nat.le_refl _)] at HAL hiv
      have HF := Lib.hid (hres.stored (.int .i64 s0) (.bool b0) (.slice A0 n0 c0'))
      have HRI := Lib.hid (hiv.put hres (.int .i64 s0) (.bool b0) (.slice A0 n0 c0'))
      have HUF := Lib.hid (hup.put3 (show w.heap.size ≤ w.heap.size by omega) (.int .i64 s0) (.bool b0) (.slice A0 n0 c0'))
      obtain ⟨c0, c1, c2, lc⟩ := hcn.facts
      obtain ⟨r0, r1, r2, f0, f1, f2, lr⟩ := hres.facts
      clear hcn hiv hres hup
      go_wp2
      obtain ⟨z0, z1, z2⟩ := HF.out
      refine bodyPost_ret (by simp [results, Tryz.results68, go_sem, z0, z1, z2]; try rfl) rfl ?_
      refine ⟨_, ?_, ⟨((val10 0 ds : Nat) : Int), HRI.out, fun _ => rfl⟩, HUF.out⟩
      have e : longOk ds = !ds.isEmpty := by unfold longOk; rw [HAL.out, Bool.and_true]
      rw [e]
end Go.Proofs.YtgcmogldiahdpaaGreatDoor

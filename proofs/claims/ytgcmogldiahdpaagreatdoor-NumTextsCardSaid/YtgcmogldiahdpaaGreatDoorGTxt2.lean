/- Walks of a law. -/
import Derived.Test.YtgcmogldiahdpaaGreatDoorGTxt1
import Derived.Test.YtgcmogldiahdpaaGreatDoorGI
import Derived.Test.YtgcmogldiahdpaaGreatDoorShelf
import Derived.Lib.ItoaMem
import Derived.Deep.RegionHeld3
namespace Go.Proofs.YtgcmogldiahdpaaGreatDoor
open Go.RowKit Fm

/-- The table of powers of ten. -/
def TabP (w : World) : Prop := Go.Lib.TabIs Tryz.prog w "internal/strconv.uint64pow10" .u64 Go.Lib.pow10Tab
theorem TabP.up {w w' : World} (h : TabP w) (hu : Up w w') : TabP w' := by
  unfold TabP Go.Lib.TabIs World.var? at *
  cases hg : Tryz.prog.globalNamed "internal/strconv.uint64pow10" with
  | none => simp [hg] at h
  | some g =>
    simp only [hg, Option.bind_some] at h ⊢
    have hlt : g < w.heap.size := by
      rcases Nat.lt_or_ge g w.heap.size with h' | h'
      · exact h'
      · rw [Array.getElem?_eq_none h'] at h; simp at h
    rw [hu.block g hlt]
    exact h
theorem Up.grow (w : World) (os : Array Obj) : Up w (Go.Sort.grow w os) :=
  ⟨rfl, rfl, rfl, by simp [Go.Sort.grow], fun j hj => by simp [Go.Sort.grow, Array.getElem?_append_left hj]⟩
theorem itoa_any (n : Int) (w : World) (h0 : -9223372036854775808 ≤ n) (h1 : n ≤ 9223372036854775807) (ht : TabP w) :
    Calls Tryz.prog 57 #[.int .i64 n] w fun e w' => e = .returned (.string ⟨(Go.Lib.itoa n).toArray⟩) ∧ Up w w' := by
  refine Calls.mono (Tryz.strconv_Itoa n h0 h1 w ht) ?_
  rintro e w' ⟨rfl, k, os, rfl⟩
  exact ⟨rfl, (Up.drewN w k).trans (Up.grow _ os)⟩

theorem str_print (ds es : List UInt8) : ByteArray.mk ds.toArray ++ (ByteArray.mk #[47] ++ ByteArray.mk es.toArray) = ByteArray.mk (ds ++ ([47] ++ es)).toArray := by
  have h := str_app [47] es
  have h2 := str_app ds ([47] ++ es)
  rw [← h2, ← h]
/-- The printed form. -/
def txtOf (x y : Int) : List UInt8 := if y = 1 then Go.Lib.itoa x else Go.Lib.itoa x ++ (47 :: Go.Lib.itoa y)

set_option maxHeartbeats 1000000 in
set_option maxRecDepth 10000 in
theorem refWrite_any (x y : Int) (w : World) (hk : okNum x y = true) :
    Calls Tryz.prog 59 #[.agg #[.int .i64 x, .int .i64 y]] w fun e w' => e = .returned (.string ⟨(txtOf x y).toArray⟩) ∧ Up w w' := by
  have hb := ok_bounds hk
  have HX := Lib.hid (fun W => refDigits_any x W (by omega) (by omega))
  have HY := Lib.hid (fun W => refDigits_any y W (by omega) (by omega))
  have lx : (Go.Lib.itoa x).length ≤ 1152921504606846978 := by have := itoa_length x; omega
  have ly : (Go.Lib.itoa y).length ≤ 1152921504606846978 := by have := itoa_length y; omega
  by_cases h1 : y = 1
  · subst h1
    have HE : Hid (txtOf x 1 = Go.Lib.itoa x) := Lib.hid (by unfold txtOf; simp)
    generalize Go.Lib.itoa x = ds at *
    clear hb hk HY ly lx
    go_enter Tryz.func59, Tryz.ntmps59
    go_wp2_with fail
    refine Calls.mono (HX.out _) ?_
    rintro e w1 ⟨rfl, hu⟩
    have HU1 := Lib.hid hu
    clear hu
    go_wp2
    go_ret
    exact ⟨by rw [HE.out]; rfl, by (repeat (first | exact Below.refl _ _ | exact Go.RowKit.Hid.out (by assumption) | refine Up.trans ?_ (Up.drew _) | refine Up.trans ?_ (Up.drewN _ _) | refine Up.trans ?_ (Up.alloc _ _) | refine Up.trans ?_ (Go.RowKit.Hid.out (by assumption))))⟩
  · have HE : Hid (txtOf x y = (Go.Lib.itoa x ++ [47]) ++ Go.Lib.itoa y) := Lib.hid (by unfold txtOf; simp [h1])
    have hz : (y == 1) = false := by simp [h1]
    have l1 : (9223372036854775807 < (Go.Lib.itoa x).length + 1) = False := eq_false (by omega)
    have l2 : (9223372036854775807 < (Go.Lib.itoa x).length + 1 + (Go.Lib.itoa y).length) = False := eq_false (by omega)
    generalize Go.Lib.itoa x = ds at *
    generalize Go.Lib.itoa y = es at *
    clear hb hk lx ly
    go_enter Tryz.func59, Tryz.ntmps59
    go_upto_region 3 with fail
    have HN := Lib.hid (CellN.new w x y)
    have HU := Lib.hid (Up.alloc w (.cells #[.int .i64 x, .int .i64 y] 23))
    generalize w.alloc (.cells #[.int .i64 x, .int .i64 y] 23) = wB at *
    obtain ⟨a0, a1, -, -, la⟩ := HN.out.facts
    go_region_held3 (fun w' => w'.cell? ⟨w.heap.size, 0, none⟩ = some (.int .i64 x) ∧ w'.cell? ⟨w.heap.size, 1, none⟩ = some (.int .i64 y)) (go_keep)
      ((first
        | (go_at_call_of 123 (Value.int IntKind.i64 x)
           refine Calls.mono (HX.out _) ?_
           rintro e w1 ⟨rfl, hu⟩
           have HU1 := Lib.hid hu
           clear hu
           obtain ⟨a0, a1, -, -, la⟩ := (HN.out.up (w' := w1) (by (repeat (first | exact Below.refl _ _ | exact Go.RowKit.Hid.out (by assumption) | refine Up.trans ?_ (Up.drew _) | refine Up.trans ?_ (Up.drewN _ _) | refine Up.trans ?_ (Up.alloc _ _) | refine Up.trans ?_ (Go.RowKit.Hid.out (by assumption)))))).facts)
        | (go_at_call_of 123 (Value.int IntKind.i64 y)
           refine Calls.mono (HY.out _) ?_
           rintro e w2 ⟨rfl, hu⟩
           have HU2 := Lib.hid hu
           clear hu
           obtain ⟨a0, a1, -, -, la⟩ := (HN.out.up (w' := w2) (by (repeat (first | exact Below.refl _ _ | exact Go.RowKit.Hid.out (by assumption) | refine Up.trans ?_ (Up.drew _) | refine Up.trans ?_ (Up.drewN _ _) | refine Up.trans ?_ (Up.alloc _ _) | refine Up.trans ?_ (Go.RowKit.Hid.out (by assumption)))))).facts)))
    go_wp2
    go_ret
    refine ⟨?_, by (repeat (first | exact Below.refl _ _ | exact Go.RowKit.Hid.out (by assumption) | refine Up.trans ?_ (Up.drew _) | refine Up.trans ?_ (Up.drewN _ _) | refine Up.trans ?_ (Up.alloc _ _) | refine Up.trans ?_ (Go.RowKit.Hid.out (by assumption))))⟩
    rw [HE.out, ← str_app, ← str_app]
    rfl

set_option maxHeartbeats 1000000 in
set_option maxRecDepth 10000 in
theorem refPrint_any (x y : Int) (w : World) (hr : Rng x y) :
    Calls Tryz.prog 13 #[.agg #[.int .i64 x, .int .i64 y]] w fun e w' => e = .returned (.tuple #[.string ⟨(if okNum x y then txtOf x y else []).toArray⟩, .int .i64 (if okNum x y then 0 else 1)]) ∧ Up w w' := by
  have HV := Lib.hid (fun W => refValid_any x y W hr.1 hr.2.1 hr.2.2.1 hr.2.2.2)
  rw [refOk_eq] at HV
  rcases hk : okNum x y with _ | _
  · rw [hk] at HV
    simp only [if_false, Bool.false_eq_true]
    clear hk hr
    go_enter Tryz.func13, Tryz.ntmps13
    go_wp2_with fail
    refine Calls.mono (HV.out _) ?_
    rintro e w1 ⟨rfl, hu⟩
    have HU1 := Lib.hid hu
    clear hu
    go_wp2
    refine bodyPost_ret (by simp [results, Tryz.results13, go_sem]; try rfl) rfl ?_
    exact ⟨rfl, by (repeat (first | exact Below.refl _ _ | exact Go.RowKit.Hid.out (by assumption) | refine Up.trans ?_ (Up.drew _) | refine Up.trans ?_ (Up.drewN _ _) | refine Up.trans ?_ (Up.alloc _ _) | refine Up.trans ?_ (Go.RowKit.Hid.out (by assumption))))⟩
  · have HWR := Lib.hid (fun W => refWrite_any x y W hk)
    rw [hk] at HV
    simp only [if_true]
    clear hk hr
    generalize txtOf x y = ts at *
    go_enter Tryz.func13, Tryz.ntmps13
    go_wp2_with fail
    have HN := Lib.hid (CellN.new w x y)
    have HU := Lib.hid (Up.alloc w (.cells #[.int .i64 x, .int .i64 y] 23))
    generalize w.alloc (.cells #[.int .i64 x, .int .i64 y] 23) = wB at *
    refine Calls.mono (HV.out _) ?_
    rintro e w1 ⟨rfl, hu⟩
    have HU1 := Lib.hid hu
    clear hu
    obtain ⟨a0, a1, -, -, la⟩ := (HN.out.up (w' := w1) (by (repeat (first | exact Below.refl _ _ | exact Go.RowKit.Hid.out (by assumption) | refine Up.trans ?_ (Up.drew _) | refine Up.trans ?_ (Up.drewN _ _) | refine Up.trans ?_ (Up.alloc _ _) | refine Up.trans ?_ (Go.RowKit.Hid.out (by assumption)))))).facts
    go_wp2_with fail
    refine Calls.mono (HWR.out _) ?_
    rintro e w2 ⟨rfl, hu⟩
    have HU2 := Lib.hid hu
    clear hu
    go_wp2
    refine bodyPost_ret (by simp [results, Tryz.results13, go_sem]; try rfl) rfl ?_
    exact ⟨rfl, by (repeat (first | exact Below.refl _ _ | exact Go.RowKit.Hid.out (by assumption) | refine Up.trans ?_ (Up.drew _) | refine Up.trans ?_ (Up.drewN _ _) | refine Up.trans ?_ (Up.alloc _ _) | refine Up.trans ?_ (Go.RowKit.Hid.out (by assumption))))⟩

set_option maxHeartbeats 1000000 in
set_option maxRecDepth 10000 in
theorem numPrint_any (x y : Int) (w : World) (hr : Rng x y) (ht : Tab w) (hp : TabP w) :
    Calls Tryz.prog 12 #[.agg #[.int .i64 x, .int .i64 y]] w fun e w' => e = .returned (.tuple #[.string ⟨(if okNum x y then txtOf x y else []).toArray⟩, .int .i64 (if okNum x y then 0 else 1)]) ∧ Up w w' := by
  have HV := Lib.hid (fun W (hu : Up w W) => valid_any x y W hr.1 hr.2.1 hr.2.2.1 hr.2.2.2 (ht.up hu))
  rcases hk : okNum x y with _ | _
  · rw [hk] at HV
    simp only [if_false, Bool.false_eq_true]
    clear hk hr
    go_enter Tryz.func12, Tryz.ntmps12
    go_wp2_with fail
    refine Calls.mono (HV.out _ (by (repeat (first | exact Below.refl _ _ | exact Go.RowKit.Hid.out (by assumption) | refine Up.trans ?_ (Up.drew _) | refine Up.trans ?_ (Up.drewN _ _) | refine Up.trans ?_ (Up.alloc _ _) | refine Up.trans ?_ (Go.RowKit.Hid.out (by assumption)))))) ?_
    rintro e w1 ⟨rfl, hu⟩
    have HU1 := Lib.hid hu
    clear hu
    go_wp2
    refine bodyPost_ret (by simp [results, Tryz.results12, go_sem]; try rfl) rfl ?_
    exact ⟨rfl, by (repeat (first | exact Below.refl _ _ | exact Go.RowKit.Hid.out (by assumption) | refine Up.trans ?_ (Up.drew _) | refine Up.trans ?_ (Up.drewN _ _) | refine Up.trans ?_ (Up.alloc _ _) | refine Up.trans ?_ (Go.RowKit.Hid.out (by assumption))))⟩
  · have HX := Lib.hid (fun W (hu : Up w W) => itoa_any x W hr.1 hr.2.1 (hp.up hu))
    have HY := Lib.hid (fun W (hu : Up w W) => itoa_any y W hr.2.2.1 hr.2.2.2 (hp.up hu))
    have hb := ok_bounds hk
    have lx : (Go.Lib.itoa x).length ≤ 1152921504606846978 := by have := itoa_length x; omega
    have ly : (Go.Lib.itoa y).length ≤ 1152921504606846978 := by have := itoa_length y; omega
    rw [hk] at HV
    simp only [if_true]
    clear hk hr hp ht hb
    by_cases h1 : y = 1
    · subst h1
      have HE : Hid (txtOf x 1 = Go.Lib.itoa x) := Lib.hid (by unfold txtOf; simp)
      rw [HE.out]
      generalize Go.Lib.itoa x = ds at *
      clear HE HY ly lx
      go_enter Tryz.func12, Tryz.ntmps12
      go_wp2_with fail
      have HN := Lib.hid (CellN.new w x 1)
      have HU := Lib.hid (Up.alloc w (.cells #[.int .i64 x, .int .i64 1] 23))
      generalize w.alloc (.cells #[.int .i64 x, .int .i64 1] 23) = wB at *
      refine Calls.mono (HV.out _ (by (repeat (first | exact Below.refl _ _ | exact Go.RowKit.Hid.out (by assumption) | refine Up.trans ?_ (Up.drew _) | refine Up.trans ?_ (Up.drewN _ _) | refine Up.trans ?_ (Up.alloc _ _) | refine Up.trans ?_ (Go.RowKit.Hid.out (by assumption)))))) ?_
      rintro e w1 ⟨rfl, hu⟩
      have HU1 := Lib.hid hu
      clear hu
      obtain ⟨a0, a1, -, -, la⟩ := (HN.out.up (w' := w1) (by (repeat (first | exact Below.refl _ _ | exact Go.RowKit.Hid.out (by assumption) | refine Up.trans ?_ (Up.drew _) | refine Up.trans ?_ (Up.drewN _ _) | refine Up.trans ?_ (Up.alloc _ _) | refine Up.trans ?_ (Go.RowKit.Hid.out (by assumption)))))).facts
      go_wp2_with fail
      refine Calls.mono (HX.out _ (by (repeat (first | exact Below.refl _ _ | exact Go.RowKit.Hid.out (by assumption) | refine Up.trans ?_ (Up.drew _) | refine Up.trans ?_ (Up.drewN _ _) | refine Up.trans ?_ (Up.alloc _ _) | refine Up.trans ?_ (Go.RowKit.Hid.out (by assumption)))))) ?_
      rintro e w2 ⟨rfl, hu⟩
      have HU2 := Lib.hid hu
      clear hu
      obtain ⟨a0, a1, -, -, la⟩ := (HN.out.up (w' := w2) (by (repeat (first | exact Below.refl _ _ | exact Go.RowKit.Hid.out (by assumption) | refine Up.trans ?_ (Up.drew _) | refine Up.trans ?_ (Up.drewN _ _) | refine Up.trans ?_ (Up.alloc _ _) | refine Up.trans ?_ (Go.RowKit.Hid.out (by assumption)))))).facts
      go_wp2
      refine bodyPost_ret (by simp [results, Tryz.results12, go_sem]; try rfl) rfl ?_
      exact ⟨rfl, by (repeat (first | exact Below.refl _ _ | exact Go.RowKit.Hid.out (by assumption) | refine Up.trans ?_ (Up.drew _) | refine Up.trans ?_ (Up.drewN _ _) | refine Up.trans ?_ (Up.alloc _ _) | refine Up.trans ?_ (Go.RowKit.Hid.out (by assumption))))⟩
    · have HE : Hid (txtOf x y = Go.Lib.itoa x ++ ([47] ++ Go.Lib.itoa y)) := Lib.hid (by unfold txtOf; simp [h1])
      rw [HE.out]
      have hz : (y == 1) = false := by simp [h1]
      have hz2 : (y != 1) = true := by simp [h1]
      have l1 : 1 + (Go.Lib.itoa y).length ≤ 9223372036854775807 := by omega
      have l2 : (Go.Lib.itoa x).length + (1 + (Go.Lib.itoa y).length) ≤ 9223372036854775807 := by omega
      generalize Go.Lib.itoa x = ds at *
      generalize Go.Lib.itoa y = es at *
      clear HE lx ly
      go_enter Tryz.func12, Tryz.ntmps12
      go_wp2_with fail
      have HN := Lib.hid (CellN.new w x y)
      have HU := Lib.hid (Up.alloc w (.cells #[.int .i64 x, .int .i64 y] 23))
      generalize w.alloc (.cells #[.int .i64 x, .int .i64 y] 23) = wB at *
      refine Calls.mono (HV.out _ (by (repeat (first | exact Below.refl _ _ | exact Go.RowKit.Hid.out (by assumption) | refine Up.trans ?_ (Up.drew _) | refine Up.trans ?_ (Up.drewN _ _) | refine Up.trans ?_ (Up.alloc _ _) | refine Up.trans ?_ (Go.RowKit.Hid.out (by assumption)))))) ?_
      rintro e w1 ⟨rfl, hu⟩
      have HU1 := Lib.hid hu
      clear hu
      obtain ⟨a0, a1, -, -, la⟩ := (HN.out.up (w' := w1) (by (repeat (first | exact Below.refl _ _ | exact Go.RowKit.Hid.out (by assumption) | refine Up.trans ?_ (Up.drew _) | refine Up.trans ?_ (Up.drewN _ _) | refine Up.trans ?_ (Up.alloc _ _) | refine Up.trans ?_ (Go.RowKit.Hid.out (by assumption)))))).facts
      go_wp2_with fail
      refine Calls.mono (HX.out _ (by (repeat (first | exact Below.refl _ _ | exact Go.RowKit.Hid.out (by assumption) | refine Up.trans ?_ (Up.drew _) | refine Up.trans ?_ (Up.drewN _ _) | refine Up.trans ?_ (Up.alloc _ _) | refine Up.trans ?_ (Go.RowKit.Hid.out (by assumption)))))) ?_
      rintro e w2 ⟨rfl, hu⟩
      have HU2 := Lib.hid hu
      clear hu
      obtain ⟨a0, a1, -, -, la⟩ := (HN.out.up (w' := w2) (by (repeat (first | exact Below.refl _ _ | exact Go.RowKit.Hid.out (by assumption) | refine Up.trans ?_ (Up.drew _) | refine Up.trans ?_ (Up.drewN _ _) | refine Up.trans ?_ (Up.alloc _ _) | refine Up.trans ?_ (Go.RowKit.Hid.out (by assumption)))))).facts
      go_wp2_with fail
      refine Calls.mono (HY.out _ (by (repeat (first | exact Below.refl _ _ | exact Go.RowKit.Hid.out (by assumption) | refine Up.trans ?_ (Up.drew _) | refine Up.trans ?_ (Up.drewN _ _) | refine Up.trans ?_ (Up.alloc _ _) | refine Up.trans ?_ (Go.RowKit.Hid.out (by assumption)))))) ?_
      rintro e w3 ⟨rfl, hu⟩
      have HU3 := Lib.hid hu
      clear hu
      go_wp2
      refine bodyPost_ret (by simp [results, Tryz.results12, go_sem]; try rfl) rfl ?_
      refine ⟨?_, by (repeat (first | exact Below.refl _ _ | exact Go.RowKit.Hid.out (by assumption) | refine Up.trans ?_ (Up.drew _) | refine Up.trans ?_ (Up.drewN _ _) | refine Up.trans ?_ (Up.alloc _ _) | refine Up.trans ?_ (Go.RowKit.Hid.out (by assumption))))⟩
      rw [str_print]
      rfl
end Go.Proofs.YtgcmogldiahdpaaGreatDoor

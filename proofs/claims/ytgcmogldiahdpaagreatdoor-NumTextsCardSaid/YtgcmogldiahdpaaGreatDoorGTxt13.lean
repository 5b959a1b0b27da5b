/- Walks of a law. -/
import Derived.Test.YtgcmogldiahdpaaGreatDoorGTxt12
namespace Go.Proofs.YtgcmogldiahdpaaGreatDoor
open Go.RowKit Fm
set_option maxHeartbeats 4000000 in
set_option maxRecDepth 10000 in
theorem refParse_nil (w : World) :
    Calls Tryz.prog 15 #[.string ⟨([] : List UInt8).toArray⟩] w fun e w' => e = .returned (.tuple #[.agg #[.int .i64 0, .int .i64 0], .int .i64 4]) ∧ Up w w' := by
  have HL1 := Lib.hid (fun W => refLong_any [] W (by simp))
  have HL2 := Lib.hid (fun W => refLong_any [49] W (by simp))
  have HR := Lib.hid (CellN.new w 0 0)
  have HU := Lib.hid (Up.alloc w (.cells #[.int .i64 0, .int .i64 0] 23))
  go_enter Tryz.func15, Tryz.ntmps15
  go_upto_block 0 with fail
  generalize w.alloc (.cells #[.int .i64 0, .int .i64 0] 23) = wB at *
  go_cut [4, 6] (fun s4 s6 wx => s4 = .string ⟨([] : List UInt8).toArray⟩ ∧ s6 = .string ⟨[(49 : UInt8)].toArray⟩ ∧ Up wB wx)
  case first =>
    go_step
    go_loopw [4, 6, 7] (fun s4 s6 i wr => s4 = .string ⟨([] : List UInt8).toArray⟩ ∧ s6 = .string ⟨[(49 : UInt8)].toArray⟩ ∧ i = .int .i64 0 ∧ Hid (Up wB wr)) (fun _ _ i _ => 0)
    case atStart => exact ⟨rfl, rfl, rfl, Lib.hid (Up.refl _)⟩
    case round =>
      obtain ⟨rfl, rfl, rfl, HUP⟩ := hrel
      go_wp2
      go_meet
      exact ⟨rfl, rfl, HUP.out⟩
  case rest =>
    obtain ⟨rfl, rfl, hu⟩ := hcut
    have HUC := Lib.hid hu
    clear hu
    go_wp2_with fail
    refine Calls.mono (HL1.out _) ?_
    rintro e w1 ⟨v1, rfl, hv1, hu⟩
    have HU1 := Lib.hid hu
    obtain ⟨z1, ⟨s1, g1, A1, n1, c1, rfl, -⟩, -⟩ := hv1
    clear hu
    go_wp2_with fail
    refine Calls.mono (HL2.out _) ?_
    rintro e w2 ⟨v2, rfl, hv2, hu⟩
    have HU2 := Lib.hid hu
    obtain ⟨z2, ⟨s2, g2, A2, n2, c2, rfl, -⟩, -⟩ := hv2
    clear hu HL1 HL2
    have HR2 := Lib.hid ((HR.out.up (w' := w2) (by (repeat (first | exact Below.refl _ _ | exact Go.RowKit.Hid.out (by assumption) | refine Up.trans ?_ (Up.drew _) | refine Up.trans ?_ (Up.drewN _ _) | refine Up.trans ?_ (Up.alloc _ _) | refine Up.trans ?_ (Go.RowKit.Hid.out (by assumption)))))).up (Up.alloc w2 (.cells #[.int .i64 s2, .bool g2, .slice A2 n2 c2] 61)))
    obtain ⟨r0, r1, f0, f1, lr⟩ := HR2.out.facts
    have HUF := Lib.hid ((show Up w (w2.alloc (.cells #[.int .i64 s2, .bool g2, .slice A2 n2 c2] 61)) by (repeat (first | exact Below.refl _ _ | exact Go.RowKit.Hid.out (by assumption) | refine Up.trans ?_ (Up.drew _) | refine Up.trans ?_ (Up.drewN _ _) | refine Up.trans ?_ (Up.alloc _ _) | refine Up.trans ?_ (Go.RowKit.Hid.out (by assumption))))).stored (Nat.le_refl w.heap.size) (.int .i64 0) (.int .i64 0))
    have HRF := Lib.hid (HR2.out.set 0 0).facts
    have h1 : longOk [] = false := rfl
    rw [h1]
    go_wp2
    obtain ⟨z0, z1, -, -, -⟩ := HRF.out
    refine bodyPost_ret (by simp [results, Tryz.results15, go_sem, z0, z1]; try rfl) rfl ?_
    exact ⟨rfl, HUF.out⟩
theorem refParse_any (bs : List UInt8) (w : World) (hl : bs.length ≤ 400) :
    Calls Tryz.prog 15 #[.string ⟨bs.toArray⟩] w fun e w' => e = .returned (.tuple #[.agg #[.int .i64 (parseOut bs).1, .int .i64 (parseOut bs).2.1], .int .i64 (parseOut bs).2.2]) ∧ Up w w' := by
  cases bs with
  | nil => exact refParse_nil w
  | cons b r =>
    by_cases h : b = 45
    · subst h
      exact refParse_neg r w (by simp at hl; omega)
    · exact refParse_pos b r w h hl
end Go.Proofs.YtgcmogldiahdpaaGreatDoor

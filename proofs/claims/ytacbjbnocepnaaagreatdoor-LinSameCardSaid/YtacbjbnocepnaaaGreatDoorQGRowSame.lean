/- What a further law needs. -/
import Derived.Test.YtacbjbnocepnaaaGreatDoorQHM
import Derived.Test.YtacbjbnocepnaaaGreatDoorQSB
import Derived.Test.YtacbjbnocepnaaaGreatDoorCards
import Derived.Test.YtacbjbnocepnaaaGreatDoorTie
import Derived.ProofKit
import Derived.OpenShut
import Derived.Deep.DeepHandedRow
import Derived.Lib.LaidTab
import Derived.Lib.SmallJoins
import Derived.LaidMore
import Derived.Carry
import Derived.Deep.SlicePairs
namespace Go.Proofs.YtacbjbnocepnaaaGreatDoor
open Go.ChangeShapes Go.WideShapes Go.ChangeAt Go.RowKit Go.Joins
theorem own_LinSame : ownKnob Tryz.prog.godebug = none := by kernel_rfl
theorem gTab_LinSame : Tryz.prog.globalNamed "math/bits.deBruijn32tab" = some 0 := by kernel_rfl
theorem gTabType_LinSame : (Tryz.prog.globals[0]?).map (·.type) = some 203 := by kernel_rfl
theorem cellsTab_LinSame : Tryz.prog.cellsOf 203 = 32 := by kernel_rfl
theorem cellsByte_LinSame : Tryz.prog.cellsOf 5 = 1 := by kernel_rfl
theorem cellsNum_LinSame : Tryz.prog.cellsOf 55 = 2 := by kernel_rfl
theorem table_LinSame {W : World} (h : laidMetH Tryz.prog Rows.linSameRow.laid W) : Lib.TabIs Tryz.prog W "math/bits.deBruijn32tab" .u8 [0, 1, 28, 2, 29, 14, 24, 3, 30, 22, 20, 15, 25, 17, 4, 8, 31, 27, 13, 23, 21, 19, 16, 7, 26, 12, 18, 6, 11, 5, 10, 9] :=
  Lib.tabIs_of_head (rest := []) gTab_LinSame gTabType_LinSame Tryz.underlying203 Tryz.underlying5 cellsByte_LinSame cellsTab_LinSame h
theorem tab_LinSame {W : World} (h : laidMetH Tryz.prog Rows.linSameRow.laid W) : Tab W := by
  have ht := table_LinSame h
  have hc : ∀ i, i < 32 → W.cell? ⟨0, i, none⟩ = some (.int .u8 (Go.Lib.deBruijn32tab.getD i 0 : Nat)) := by
    intro i hi
    have := ht.cell gTab_LinSame i (by simpa using hi)
    rw [this]
    congr 2
    clear this ht h
    revert i
    decide
  refine ⟨?_, hc⟩
  have h0 := hc 0 (by decide)
  rcases Nat.lt_or_ge 0 W.heap.size with hz | hz
  · exact hz
  · exfalso
    have : W.heap[0]? = none := Array.getElem?_eq_none hz
    simp [World.cell?, this] at h0
theorem rng_wf {x : Int} (h : (Lit.int IntKind.i64 x).wf = true) : -9223372036854775808 ≤ x ∧ x ≤ 9223372036854775807 := by
  simpa [Lit.wf, IntKind.min, IntKind.max, IntKind.signed, IntKind.bits] using h
theorem laidOut_LinSame : laidOutB Tryz.prog = true := by kernel_rfl
set_option maxRecDepth 100000 in
theorem contract_LinSame (H : Type) (enc : TypeId × Value → H) (W : World) (base : Nat) (args : Array Value) (ds gs : List (DataW H)) (before : List MemPlace)
    (hval : ∀ (j : Nat) t v, Tryz.f5.params[j]? = some t → args[j]? = some v → Value.okWide Tryz.prog W .any base t v)
    (hW : DataW.Whole enc Tryz.prog Tryz.f5.params.toList Rows.linSameSpec.vars false W args.toList ds gs before) (hL : laidMetH Tryz.prog Rows.linSameRow.laid W) :
    Calls Tryz.prog 5 args W fun e W' => ∃ v, e = .returned v ∧ Rows.linSameSpec.post enc Tryz.prog Tryz.f5 false true false false W args v W' := by
  have hW' := hW
  obtain ⟨p, q, hA0, hV, rfl, hfz, hnd⟩ := hW
  have hA : DataW.TrodAll enc Tryz.prog W 0 (fun _ => true) true Tryz.f5.params.toList args.toList ds p := hA0
  rw [Tryz.params5] at hA hval
  obtain ⟨v0, vs0, d0, ds0, p0, q0, hargs0, rfl, rfl, h0, r0⟩ := trodAll_cons hA
  obtain ⟨v1, vs1, d1, ds1, p1, q1, hargs1, rfl, rfl, h1, r1⟩ := trodAll_cons r0
  obtain ⟨v2, vs2, d2, ds2, p2, q2, hargs2, rfl, rfl, h2, r2⟩ := trodAll_cons r1
  obtain ⟨rfl, rfl, rfl⟩ := trodAll_nil r2
  obtain rfl : args = #[v0, v1, v2] := by cases args; simp_all
  obtain ⟨rfl, rfl⟩ := trodVars_none hV
  obtain ⟨a1, rfl, rfl, rfl, w00⟩ := open_int Tryz.underlying3 (hval 0 3 v0 rfl rfl) h0
  have k1 := h1
  obtain ⟨b1, b2, b3, rfl, l1, m1, z1, g1⟩ := open_forms (hval 1 22 v1 rfl rfl) h1
  have k2 := h2
  obtain ⟨c1, c2, c3, rfl, l2, m2, z2, g2⟩ := open_forms (hval 2 22 v2 rfl rfl) h2
  clear hA0
  simp only [List.append_nil] at hW'
  have g0 := rng_wf w00
  have s0 : ∀ (W' : World) (sp : Nat → Bool), DataW.Trod enc Tryz.prog W' 0 sp true 3 (.int .i64 a1) (.lit (.int .i64 a1)) [] := fun W' sp => shut_int Tryz.underlying3 w00
  have hlt1 : ∀ x ∈ p1, x.block < W.heap.size := fun x hx => by simpa using hW'.lt x (by simp [hx])
  have hlt2 : ∀ x ∈ p2, x.block < W.heap.size := fun x hx => by simpa using hW'.lt x (by simp [hx])
  refine (linSameLaw_any b1 c1 b3 c3 a1 b2 c2 W l1 m1 z1 l2 m2 z2 (tab_LinSame hL)).mono fun e W' ⟨he, hg⟩ => ?_
  subst he
  exact ⟨_, rfl, _, _, _, _, _, [], hW', trodAll_cons_mk (shut_bool Tryz.underlying4 _) trodAll_mk0, trodAll_cons_mk (s0 _ _) (trodAll_cons_mk (Below.trod laidOut_LinSame (by kernel_rfl) (of_decide_eq_true (by kernel_rfl)) k1 hg hlt1) (trodAll_cons_mk (Below.trod laidOut_LinSame (by kernel_rfl) (of_decide_eq_true (by kernel_rfl)) k2 hg hlt2) (trodAll_mk0))), rfl, hg.frame _, fun h => by cases h⟩
theorem met_LinSame (os : Os) : laidMet Tryz.prog Rows.linSameRow.laid ((World.doorLaid Tryz.prog 400 os).forCall (fun _ _ => 0) ⟨#[], #[.int .i64 0, .slice none 0 0, .slice none 0 0], []⟩).memory :=
  laidMet_of_run' 8 (by kernel_rfl) (by kernel_rfl)
theorem reads_LinSame (os : Os) {H : Type} (enc : TypeId × Value → H) : ∃ places, DataW.whole enc Tryz.prog ((World.doorLaid Tryz.prog 400 os).forCall (fun _ _ => 0) ⟨#[], #[.int .i64 0, .slice none 0 0, .slice none 0 0], []⟩).memory Tryz.f5.params.toList Rows.linSameSpec.vars false (#[.int .i64 0, .slice none 0 0, .slice none 0 0] : Array Value).toList 8 = some ([.lit (.int .i64 0), .nil, .nil], [], places) :=
  ⟨[], by kernel_rfl⟩
set_option maxRecDepth 100000 in
theorem lifted_LinSame (os : Os) (started : os.Started) (H : Type) (enc : TypeId × Value → H) (F : Stop.Interp) :
    ReturnsInHanded {} Tryz.checked os 5 .any ((OpenSpec.ofChange Rows.linSameSpec).preRow enc Tryz.prog Tryz.f5 Rows.linSameRow.domain false Rows.linSameRow.laid) (((OpenSpec.ofChange Rows.linSameSpec).at F).post enc Tryz.prog Tryz.f5 false true false false) := by
  obtain ⟨places, hx⟩ := reads_LinSame os enc
  refine returnsInHanded_of_row (C := Tryz.checked) (s := OpenSpec.ofChange Rows.linSameSpec) own_LinSame started (by kernel_rfl) Tryz.func5
    (witness_row_at (enc := enc) (C := Tryz.checked) false (World.doorLaid Tryz.prog 400 os) #[.int .i64 0, .slice none 0 0, .slice none 0 0] rfl (by kernel_rfl) (by kernel_rfl) (by kernel_rfl)
      (OpenSpec.preRow_of_cond 8 hx (by kernel_rfl) (fun k hk => by cases hk) (by kernel_rfl) (met_LinSame os))) ?_
  intro W base args ds gs before hval hW _ _ _ hL _ _
  exact contract_LinSame H enc W base args ds gs before hval hW hL
theorem said_LinSame : Rows.LinSameSaid :=
  OpenClaim.holds_of_cond 5 Tryz.f5 rfl rfl rfl rfl rfl rfl rfl ⟨rfl, rfl, rfl, rfl, rfl⟩ rfl rfl rfl rfl rfl (by kernel_rfl) Tryz.func5 (by kernel_rfl)
    (of_decide_eq_true (by kernel_rfl)) (by unfold Func.isWrapper; first | (rw [if_pos (by decide +kernel)]; kernel_rfl) | (rw [if_neg (by decide +kernel)]; exact ⟨rfl, rfl⟩))
    (fun os started H enc _ F => by rw [OpenClaim.pre_eq_preRow]; exact lifted_LinSame os started H enc F)
theorem plain_LinSame (f : FuncId) (fn : Func) (hf : Tryz.pinned.checked.prog.funcNamed "floodmark/floodmarklaw02.LinSame" = some f) (hfn : Tryz.pinned.checked.prog.funcs[f]? = some fn) :
    false = Tryz.pinned.checked.prog.looks [] ∧ ∀ (j : Nat) t, fn.params[j]? = some t → Tryz.pinned.checked.prog.wantsStandIn t = false := by
  obtain rfl : f = 5 := Option.some.inj ((show Tryz.prog.funcNamed "floodmark/floodmarklaw02.LinSame" = some 5 by kernel_rfl).symm.trans hf) |>.symm
  obtain rfl : fn = Tryz.f5 := (Option.some.inj (Tryz.func5.symm.trans hfn)).symm
  refine ⟨by kernel_rfl, fun j t ht => ?_⟩
  rw [Tryz.params5] at ht
  have hm := Array.mem_of_getElem? ht
  have ho : t = 3 ∨ t = 22 := by simpa using hm
  rcases ho with rfl | rfl
  · exact (show Tryz.prog.wantsStandIn 3 = false by kernel_rfl)
  · exact (show Tryz.prog.wantsStandIn 22 = false by kernel_rfl)
theorem card_LinSame : Rows.LinSameCardSaid :=
  Claim7.holds_tied_plain_at .later [] _ _ _ _ said_LinSame (fun _ h => by cases h) (by kernel_rfl) (fun _ h => by cases h) linSame_row_tie rfl ⟨rfl, rfl⟩ (by kernel_rfl) rfl plain_LinSame (by kernel_rfl)
end Go.Proofs.YtacbjbnocepnaaaGreatDoor

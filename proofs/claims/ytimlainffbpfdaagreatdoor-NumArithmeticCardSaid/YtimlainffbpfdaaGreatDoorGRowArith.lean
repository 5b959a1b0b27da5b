/- The law NumArithmetic of the stage num/lin is proved: for every input that can be read, its call returns true, and each argument reads afterwards as it read before. Conditions: none beyond the form of the row (the table of math/bits is laid as the program text lays it; the card ties it). -/
import Derived.Test.YtimlainffbpfdaaGreatDoorGArith2
import Derived.Test.YtimlainffbpfdaaGreatDoorCards
import Derived.Test.YtimlainffbpfdaaGreatDoorTie
import Derived.ProofKit
import Derived.OpenShut
import Derived.Deep.DeepHandedRow
import Derived.Lib.LaidTab
import Derived.Lib.SmallJoins
import Derived.LaidMore
namespace Go.Proofs.YtimlainffbpfdaaGreatDoor
open Go.ChangeShapes Go.WideShapes Go.ChangeAt Go.RowKit Go.Joins

theorem own_NumArithmetic : ownKnob Tryz.prog.godebug = none := by kernel_rfl
theorem gTab_NumArithmetic : Tryz.prog.globalNamed "math/bits.deBruijn32tab" = some 1 := by kernel_rfl
theorem gTabType_NumArithmetic : (Tryz.prog.globals[1]?).map (·.type) = some 155 := by kernel_rfl
theorem cellsTab_NumArithmetic : Tryz.prog.cellsOf 155 = 32 := by kernel_rfl
theorem cellsByte_NumArithmetic : Tryz.prog.cellsOf 5 = 1 := by kernel_rfl
theorem cellsNum_NumArithmetic : Tryz.prog.cellsOf 23 = 2 := by kernel_rfl

theorem table_NumArithmetic {W : World} (h : laidMetH Tryz.prog Rows.numArithmeticRow.laid W) : Lib.TabIs Tryz.prog W "math/bits.deBruijn32tab" .u8 [0, 1, 28, 2, 29, 14, 24, 3, 30, 22, 20, 15, 25, 17, 4, 8, 31, 27, 13, 23, 21, 19, 16, 7, 26, 12, 18, 6, 11, 5, 10, 9] :=
  Lib.tabIs_of_head (rest := []) gTab_NumArithmetic gTabType_NumArithmetic Tryz.underlying155 Tryz.underlying5 cellsByte_NumArithmetic cellsTab_NumArithmetic h
theorem tab_NumArithmetic {W : World} (h : laidMetH Tryz.prog Rows.numArithmeticRow.laid W) : Tab W := by
  have ht := table_NumArithmetic h
  have hc : ∀ i, i < 32 → W.cell? ⟨1, i, none⟩ = some (.int .u8 (Go.Lib.deBruijn32tab.getD i 0 : Nat)) := by
    intro i hi
    have := ht.cell gTab_NumArithmetic i (by simpa using hi)
    rw [this]
    congr 2
    clear this ht h
    revert i
    decide
  refine ⟨?_, hc⟩
  have h0 := hc 0 (by decide)
  rcases Nat.lt_or_ge 1 W.heap.size with hz | hz
  · exact hz
  · exfalso
    have : W.heap[1]? = none := Array.getElem?_eq_none hz
    simp [World.cell?, this] at h0

theorem rng_wf {x : Int} (h : (Lit.int IntKind.i64 x).wf = true) : -9223372036854775808 ≤ x ∧ x ≤ 9223372036854775807 := by
  simpa [Lit.wf, IntKind.min, IntKind.max, IntKind.signed, IntKind.bits] using h
set_option maxRecDepth 100000 in
theorem contract_NumArithmetic (H : Type) (enc : TypeId × Value → H) (W : World) (base : Nat) (args : Array Value) (ds gs : List (DataW H)) (before : List MemPlace)
    (hval : ∀ (j : Nat) t v, Tryz.f3.params[j]? = some t → args[j]? = some v → Value.okWide Tryz.prog W .any base t v)
    (hW : DataW.Whole enc Tryz.prog Tryz.f3.params.toList Rows.numArithmeticSpec.vars false W args.toList ds gs before) (hL : laidMetH Tryz.prog Rows.numArithmeticRow.laid W) :
    Calls Tryz.prog 3 args W fun e W' => ∃ v, e = .returned v ∧ Rows.numArithmeticSpec.post enc Tryz.prog Tryz.f3 false true false false W args v W' := by
  have hW' := hW
  obtain ⟨p, q, hA0, hV, rfl, hfz, hnd⟩ := hW
  have hA : DataW.TrodAll enc Tryz.prog W 0 (fun _ => true) true Tryz.f3.params.toList args.toList ds p := hA0
  rw [Tryz.params3] at hA hval
  obtain ⟨v0, vs0, d0, ds0, p0, q0, hargs0, rfl, rfl, h0, r0⟩ := trodAll_cons hA
  obtain ⟨v1, vs1, d1, ds1, p1, q1, hargs1, rfl, rfl, h1, r1⟩ := trodAll_cons r0
  obtain ⟨rfl, rfl, rfl⟩ := trodAll_nil r1
  obtain rfl : args = #[v0, v1] := by cases args; simp_all
  obtain ⟨rfl, rfl⟩ := trodVars_none hV
  obtain ⟨c00, c01, y00, y01, m0, rfl, rfl, rfl, hy00, hy01⟩ := open_agg2 Tryz.underlying23 (by kernel_rfl) cellsNum_NumArithmetic (hval 0 23 v0 rfl rfl) h0
  obtain ⟨a1, e00, rfl, w00⟩ := DataW.trod_int Tryz.underlying3 hy00
  obtain ⟨a2, e01, rfl, w01⟩ := DataW.trod_int Tryz.underlying3 hy01
  simp at e00 e01
  subst e00 e01
  obtain ⟨c10, c11, y10, y11, m1, rfl, rfl, rfl, hy10, hy11⟩ := open_agg2 Tryz.underlying23 (by kernel_rfl) cellsNum_NumArithmetic (hval 1 23 v1 rfl rfl) h1
  obtain ⟨b1, e10, rfl, w10⟩ := DataW.trod_int Tryz.underlying3 hy10
  obtain ⟨b2, e11, rfl, w11⟩ := DataW.trod_int Tryz.underlying3 hy11
  simp at e10 e11
  subst e10 e11
  clear hA0
  simp only [List.append_nil] at hW'
  have g0 : Rng a1 a2 := ⟨(rng_wf w00).1, (rng_wf w00).2, (rng_wf w01).1, (rng_wf w01).2⟩
  have s0 : ∀ (W' : World) (sp : Nat → Bool), DataW.Trod enc Tryz.prog W' 0 sp true 23 (.agg #[.int .i64 a1, .int .i64 a2]) (.agg [.lit (.int .i64 a1), .lit (.int .i64 a2)]) [] := fun W' sp =>
    shut_agg2 (y0 := (.lit (.int .i64 a1), [])) (y1 := (.lit (.int .i64 a2), [])) Tryz.underlying23 (by kernel_rfl) cellsNum_NumArithmetic ⟨1, by simp [DataW.trod, Tryz.underlying3, w00]⟩ ⟨1, by simp [DataW.trod, Tryz.underlying3, w01]⟩
  have g1 : Rng b1 b2 := ⟨(rng_wf w10).1, (rng_wf w10).2, (rng_wf w11).1, (rng_wf w11).2⟩
  have s1 : ∀ (W' : World) (sp : Nat → Bool), DataW.Trod enc Tryz.prog W' 0 sp true 23 (.agg #[.int .i64 b1, .int .i64 b2]) (.agg [.lit (.int .i64 b1), .lit (.int .i64 b2)]) [] := fun W' sp =>
    shut_agg2 (y0 := (.lit (.int .i64 b1), [])) (y1 := (.lit (.int .i64 b2), [])) Tryz.underlying23 (by kernel_rfl) cellsNum_NumArithmetic ⟨1, by simp [DataW.trod, Tryz.underlying3, w10]⟩ ⟨1, by simp [DataW.trod, Tryz.underlying3, w11]⟩
  refine (numArith_any a1 a2 b1 b2 W g0 g1 (tab_NumArithmetic hL)).mono fun e W' ⟨he, hg⟩ => ?_
  subst he
  exact ⟨_, rfl, _, _, _, _, _, [], hW', trodAll_cons_mk (shut_bool Tryz.underlying4 _) trodAll_mk0, trodAll_cons_mk (s0 _ _) (trodAll_cons_mk (s1 _ _) (trodAll_mk0)), rfl, hg.frame _, fun h => by cases h⟩

theorem met_NumArithmetic (os : Os) : laidMet Tryz.prog Rows.numArithmeticRow.laid ((World.doorLaid Tryz.prog 400 os).forCall (fun _ _ => 0) ⟨#[], #[.agg #[.int .i64 0, .int .i64 0], .agg #[.int .i64 0, .int .i64 0]], []⟩).memory :=
  laidMet_of_run' 8 (by kernel_rfl) (by kernel_rfl)
theorem reads_NumArithmetic (os : Os) {H : Type} (enc : TypeId × Value → H) : ∃ places, DataW.whole enc Tryz.prog ((World.doorLaid Tryz.prog 400 os).forCall (fun _ _ => 0) ⟨#[], #[.agg #[.int .i64 0, .int .i64 0], .agg #[.int .i64 0, .int .i64 0]], []⟩).memory Tryz.f3.params.toList Rows.numArithmeticSpec.vars false (#[.agg #[.int .i64 0, .int .i64 0], .agg #[.int .i64 0, .int .i64 0]] : Array Value).toList 8 = some ([.agg [.lit (.int .i64 0), .lit (.int .i64 0)], .agg [.lit (.int .i64 0), .lit (.int .i64 0)]], [], places) :=
  ⟨[], by kernel_rfl⟩

set_option maxRecDepth 100000 in
theorem lifted_NumArithmetic (os : Os) (started : os.Started) (H : Type) (enc : TypeId × Value → H) (F : Stop.Interp) :
    ReturnsInHanded {} Tryz.checked os 3 .any ((OpenSpec.ofChange Rows.numArithmeticSpec).preRow enc Tryz.prog Tryz.f3 Rows.numArithmeticRow.domain false Rows.numArithmeticRow.laid) (((OpenSpec.ofChange Rows.numArithmeticSpec).at F).post enc Tryz.prog Tryz.f3 false true false false) := by
  obtain ⟨places, hx⟩ := reads_NumArithmetic os enc
  refine returnsInHanded_of_row (C := Tryz.checked) (s := OpenSpec.ofChange Rows.numArithmeticSpec) own_NumArithmetic started (by kernel_rfl) Tryz.func3
    (witness_row_at (enc := enc) (C := Tryz.checked) false (World.doorLaid Tryz.prog 400 os) #[.agg #[.int .i64 0, .int .i64 0], .agg #[.int .i64 0, .int .i64 0]] rfl (by kernel_rfl) (by kernel_rfl) (by kernel_rfl)
      (OpenSpec.preRow_of_cond 8 hx (by kernel_rfl) (fun k hk => by cases hk) (by kernel_rfl) (met_NumArithmetic os))) ?_
  intro W base args ds gs before hval hW _ _ _ hL _ _
  exact contract_NumArithmetic H enc W base args ds gs before hval hW hL

theorem said_NumArithmetic : Rows.NumArithmeticSaid :=
  OpenClaim.holds_of_cond 3 Tryz.f3 rfl rfl rfl rfl rfl rfl rfl ⟨rfl, rfl, rfl, rfl, rfl⟩ rfl rfl rfl rfl rfl (by kernel_rfl) Tryz.func3 (by kernel_rfl)
    (of_decide_eq_true (by kernel_rfl)) (by unfold Func.isWrapper; first | (rw [if_pos (by decide +kernel)]; kernel_rfl) | (rw [if_neg (by decide +kernel)]; exact ⟨rfl, rfl⟩))
    (fun os started H enc _ F => by rw [OpenClaim.pre_eq_preRow]; exact lifted_NumArithmetic os started H enc F)

theorem plain_NumArithmetic (f : FuncId) (fn : Func) (hf : Tryz.pinned.checked.prog.funcNamed "floodmark/floodmarklaw01.NumArithmetic" = some f) (hfn : Tryz.pinned.checked.prog.funcs[f]? = some fn) :
    false = Tryz.pinned.checked.prog.looks [] ∧ ∀ (j : Nat) t, fn.params[j]? = some t → Tryz.pinned.checked.prog.wantsStandIn t = false := by
  obtain rfl : f = 3 := Option.some.inj ((show Tryz.prog.funcNamed "floodmark/floodmarklaw01.NumArithmetic" = some 3 by kernel_rfl).symm.trans hf) |>.symm
  obtain rfl : fn = Tryz.f3 := (Option.some.inj (Tryz.func3.symm.trans hfn)).symm
  refine ⟨by kernel_rfl, fun j t ht => ?_⟩
  rw [Tryz.params3] at ht
  have hm := Array.mem_of_getElem? ht
  obtain rfl : t = 23 := by simpa using hm
  exact (show Tryz.prog.wantsStandIn 23 = false by kernel_rfl)

theorem card_NumArithmetic : Rows.NumArithmeticCardSaid :=
  Claim7.holds_tied_plain_at .later [] _ _ _ _ said_NumArithmetic (fun _ h => by cases h) (by kernel_rfl) (fun _ h => by cases h) numArithmetic_row_tie rfl ⟨rfl, rfl⟩ (by kernel_rfl) rfl plain_NumArithmetic (by kernel_rfl)
end Go.Proofs.YtimlainffbpfdaaGreatDoor

/- The law NumTexts of the stage num/lin is proved: for every input that can be read, its call returns true, and each argument reads afterwards as it read before. Conditions: none beyond the form of the row (the table of math/bits is laid as the program text lays it; the card ties it). -/
import Derived.Test.YtgcmogldiahdpaaGreatDoorGTxt14
import Derived.Test.YtgcmogldiahdpaaGreatDoorCards
import Derived.Test.YtgcmogldiahdpaaGreatDoorTie
import Derived.ProofKit
import Derived.OpenShut
import Derived.Deep.DeepHandedRow
import Derived.Lib.LaidTab
import Derived.Lib.SmallJoins
import Derived.LaidMore
import Derived.Lay
import Derived.ChangeMaps5
namespace Go.Proofs.YtgcmogldiahdpaaGreatDoor
open Go.ChangeShapes Go.WideShapes Go.ChangeAt Go.RowKit Go.Joins

theorem own_NumTexts : ownKnob Tryz.prog.godebug = none := by kernel_rfl
theorem gTab_NumTexts : Tryz.prog.globalNamed "math/bits.deBruijn32tab" = some 4 := by kernel_rfl
theorem gTabType_NumTexts : (Tryz.prog.globals[4]?).map (·.type) = some 259 := by kernel_rfl
theorem cellsTab_NumTexts : Tryz.prog.cellsOf 259 = 32 := by kernel_rfl
theorem cellsByte_NumTexts : Tryz.prog.cellsOf 5 = 1 := by kernel_rfl
theorem cellsNum_NumTexts : Tryz.prog.cellsOf 23 = 2 := by kernel_rfl

theorem laid_tail {x : String × DataW Unit} {rest : List (String × DataW Unit)} {W : World} (h : laidMet Tryz.prog (x :: rest) W) : laidMet Tryz.prog rest W := by
  obtain ⟨n, d⟩ := x
  obtain ⟨ps, ⟨g, t, cs, fuel, p, q, -, -, -, -, h5, rfl⟩, hn, hc⟩ := h
  exact ⟨q, h5, (List.nodup_append.1 hn).2.1, fun b off hm => hc b off (by simp [hm])⟩
theorem gPow : Tryz.prog.globalNamed "internal/strconv.uint64pow10" = some 1 := by kernel_rfl
theorem gPowType : (Tryz.prog.globals[1]?).map (·.type) = some 246 := by kernel_rfl
theorem cellsPow : Tryz.prog.cellsOf 246 = 20 := by kernel_rfl
theorem cellsU64 : Tryz.prog.cellsOf 198 = 1 := by kernel_rfl
theorem laidPlain {W : World} (h : laidMetH Tryz.prog Rows.numTextsRow.laid W) : laidMet Tryz.prog Rows.numTextsRow.laid W := by
  rw [MakeChecks.laidMetH_plain _ _ _ (by kernel_rfl)] at h
  exact h
theorem tabP_NumTexts {W : World} (h : laidMetH Tryz.prog Rows.numTextsRow.laid W) : TabP W :=
  Lib.tabIs_of_head gPow gPowType Tryz.underlying246 Tryz.underlying198 cellsU64 cellsPow (laid_tail (laid_tail (laidPlain h)))
theorem maxC_start {W : World} (h : W.ShapedOpen Tryz.prog) : MaxC W := by
  obtain ⟨m, hm⟩ := Tryz.laysM219.s1_3 W h
  refine ⟨m, ?_, hm⟩
  rcases Nat.lt_or_ge 0 W.heap.size with hz | hz
  · exact hz
  · exfalso
    have : W.heap[0]? = none := Array.getElem?_eq_none hz
    have hm' : W.cell? ⟨0, 0, none⟩ = some (.int .i64 m) := hm
    simp [World.cell?, this] at hm'
theorem table_NumTexts {W : World} (h : laidMetH Tryz.prog Rows.numTextsRow.laid W) : Lib.TabIs Tryz.prog W "math/bits.deBruijn32tab" .u8 [0, 1, 28, 2, 29, 14, 24, 3, 30, 22, 20, 15, 25, 17, 4, 8, 31, 27, 13, 23, 21, 19, 16, 7, 26, 12, 18, 6, 11, 5, 10, 9] :=
  Lib.tabIs_of_head gTab_NumTexts gTabType_NumTexts Tryz.underlying259 Tryz.underlying5 cellsByte_NumTexts cellsTab_NumTexts (laidPlain h)
theorem tab_NumTexts {W : World} (h : laidMetH Tryz.prog Rows.numTextsRow.laid W) : Tab W := by
  have ht := table_NumTexts h
  have hc : ∀ i, i < 32 → W.cell? ⟨4, i, none⟩ = some (.int .u8 (Go.Lib.deBruijn32tab.getD i 0 : Nat)) := by
    intro i hi
    have := ht.cell gTab_NumTexts i (by simpa using hi)
    rw [this]
    congr 2
    clear this ht h
    revert i
    decide
  refine ⟨?_, hc⟩
  have h0 := hc 0 (by decide)
  rcases Nat.lt_or_ge 4 W.heap.size with hz | hz
  · exact hz
  · exfalso
    have : W.heap[4]? = none := Array.getElem?_eq_none hz
    simp [World.cell?, this] at h0

theorem rng_wf {x : Int} (h : (Lit.int IntKind.i64 x).wf = true) : -9223372036854775808 ≤ x ∧ x ≤ 9223372036854775807 := by
  simpa [Lit.wf, IntKind.min, IntKind.max, IntKind.signed, IntKind.bits] using h
set_option maxRecDepth 100000 in
theorem contract_NumTexts (H : Type) (enc : TypeId × Value → H) (W : World) (base : Nat) (args : Array Value) (ds gs : List (DataW H)) (before : List MemPlace)
    (hval : ∀ (j : Nat) t v, Tryz.f3.params[j]? = some t → args[j]? = some v → Value.okWide Tryz.prog W .any base t v)
    (hW : DataW.Whole enc Tryz.prog Tryz.f3.params.toList Rows.numTextsSpec.vars false W args.toList ds gs before) (hL : laidMetH Tryz.prog Rows.numTextsRow.laid W) (hsh : W.ShapedOpen Tryz.prog) :
    Calls Tryz.prog 3 args W fun e W' => ∃ v, e = .returned v ∧ Rows.numTextsSpec.post enc Tryz.prog Tryz.f3 false true false false W args v W' := by
  have hW' := hW
  obtain ⟨p, q, hA0, hV, rfl, hfz, hnd⟩ := hW
  have hA : DataW.TrodAll enc Tryz.prog W 0 (fun _ => true) true Tryz.f3.params.toList args.toList ds p := hA0
  rw [Tryz.params3] at hA hval
  obtain ⟨v0, vs0, d0, ds0, p0, q0, hargs0, rfl, rfl, h0, r0⟩ := trodAll_cons hA
  obtain ⟨v1, vs1, d1, ds1, p1, q1, hargs1, rfl, rfl, h1, r1⟩ := trodAll_cons r0
  obtain ⟨rfl, rfl, rfl⟩ := trodAll_nil r1
  obtain rfl : args = #[v0, v1] := by cases args; simp_all
  obtain ⟨rfl, rfl⟩ := trodVars_none hV
  obtain ⟨c00, c01, y00, y01, m0, rfl, rfl, rfl, hy00, hy01⟩ := open_agg2 Tryz.underlying23 (by kernel_rfl) cellsNum_NumTexts (hval 0 23 v0 rfl rfl) h0
  obtain ⟨a1, e00, rfl, w00⟩ := DataW.trod_int Tryz.underlying3 hy00
  obtain ⟨a2, e01, rfl, w01⟩ := DataW.trod_int Tryz.underlying3 hy01
  simp at e00 e01
  subst e00 e01
  obtain ⟨b1, rfl, rfl, rfl, w10⟩ := Go.ChangeMaps.open_string Tryz.underlying9 (hval 1 9 v1 rfl rfl) h1
  clear hA0
  simp only [List.append_nil] at hW'
  have g0 : Rng a1 a2 := ⟨(rng_wf w00).1, (rng_wf w00).2, (rng_wf w01).1, (rng_wf w01).2⟩
  have s0 : ∀ (W' : World) (sp : Nat → Bool), DataW.Trod enc Tryz.prog W' 0 sp true 23 (.agg #[.int .i64 a1, .int .i64 a2]) (.agg [.lit (.int .i64 a1), .lit (.int .i64 a2)]) [] := fun W' sp =>
    shut_agg2 (y0 := (.lit (.int .i64 a1), [])) (y1 := (.lit (.int .i64 a2), [])) Tryz.underlying23 (by kernel_rfl) cellsNum_NumTexts ⟨1, by simp [DataW.trod, Tryz.underlying3, w00]⟩ ⟨1, by simp [DataW.trod, Tryz.underlying3, w01]⟩
  have s1 : ∀ (W' : World) (sp : Nat → Bool), DataW.Trod enc Tryz.prog W' 0 sp true 9 (.string b1) (.lit (.string b1.data.toList)) [] := fun W' sp => Go.ChangeMaps.shut_string Tryz.underlying9 w10
  refine (numTextsLaw a1 a2 b1 W g0 w10 (tab_NumTexts hL) (tabP_NumTexts hL) (maxC_start hsh)).mono fun e W' ⟨he, hg⟩ => ?_
  subst he
  exact ⟨_, rfl, _, _, _, _, _, [], hW', trodAll_cons_mk (shut_bool Tryz.underlying4 _) trodAll_mk0, trodAll_cons_mk (s0 _ _) (trodAll_cons_mk (s1 _ _) (trodAll_mk0)), rfl, hg.frame _, fun h => by cases h⟩

theorem met_NumTexts (os : Os) : laidMet Tryz.prog Rows.numTextsRow.laid ((World.laidAll Tryz.prog os Rows.numTextsRow.laid).forCall (fun _ _ => 0) ⟨#[], #[.agg #[.int .i64 0, .int .i64 0], .string ⟨#[]⟩], []⟩).memory :=
  laidMet_laidAll _ (by kernel_rfl) (by kernel_rfl)
theorem reads_NumTexts (os : Os) {H : Type} (enc : TypeId × Value → H) : ∃ places, DataW.whole enc Tryz.prog ((World.laidAll Tryz.prog os Rows.numTextsRow.laid).forCall (fun _ _ => 0) ⟨#[], #[.agg #[.int .i64 0, .int .i64 0], .string ⟨#[]⟩], []⟩).memory Tryz.f3.params.toList Rows.numTextsSpec.vars false (#[.agg #[.int .i64 0, .int .i64 0], .string ⟨#[]⟩] : Array Value).toList 8 = some ([.agg [.lit (.int .i64 0), .lit (.int .i64 0)], .lit (.string [])], [], places) :=
  ⟨[], by kernel_rfl⟩

set_option maxRecDepth 100000 in
theorem lifted_NumTexts (os : Os) (started : os.Started) (H : Type) (enc : TypeId × Value → H) (F : Stop.Interp) :
    ReturnsInHanded {} Tryz.checked os 3 .any ((OpenSpec.ofChange Rows.numTextsSpec).preRow enc Tryz.prog Tryz.f3 Rows.numTextsRow.domain false Rows.numTextsRow.laid) (((OpenSpec.ofChange Rows.numTextsSpec).at F).post enc Tryz.prog Tryz.f3 false true false false) := by
  obtain ⟨places, hx⟩ := reads_NumTexts os enc
  refine returnsInHanded_of_row (C := Tryz.checked) (s := OpenSpec.ofChange Rows.numTextsSpec) own_NumTexts started (by kernel_rfl) Tryz.func3
    (witness_row_at (enc := enc) (C := Tryz.checked) false (World.laidAll Tryz.prog os Rows.numTextsRow.laid) #[.agg #[.int .i64 0, .int .i64 0], .string ⟨#[]⟩] rfl (by kernel_rfl) (by kernel_rfl) (by kernel_rfl)
      (OpenSpec.preRow_of_cond 8 hx (by kernel_rfl) (fun k hk => by cases hk) (by kernel_rfl) (met_NumTexts os))) ?_
  intro W base args ds gs before hval hW _ _ _ hL hsh _
  exact contract_NumTexts H enc W base args ds gs before hval hW hL hsh

theorem said_NumTexts : Rows.NumTextsSaid :=
  OpenClaim.holds_of_cond 3 Tryz.f3 rfl rfl rfl rfl rfl rfl rfl ⟨rfl, rfl, rfl, rfl, rfl⟩ rfl rfl rfl rfl rfl (by kernel_rfl) Tryz.func3 (by kernel_rfl)
    (of_decide_eq_true (by kernel_rfl)) (by unfold Func.isWrapper; first | (rw [if_pos (by decide +kernel)]; kernel_rfl) | (rw [if_neg (by decide +kernel)]; exact ⟨rfl, rfl⟩))
    (fun os started H enc _ F => by rw [OpenClaim.pre_eq_preRow]; exact lifted_NumTexts os started H enc F)

theorem plain_NumTexts (f : FuncId) (fn : Func) (hf : Tryz.pinned.checked.prog.funcNamed "floodmark/floodmarklaw01.NumTexts" = some f) (hfn : Tryz.pinned.checked.prog.funcs[f]? = some fn) :
    false = Tryz.pinned.checked.prog.looks [] ∧ ∀ (j : Nat) t, fn.params[j]? = some t → Tryz.pinned.checked.prog.wantsStandIn t = false := by
  obtain rfl : f = 3 := Option.some.inj ((show Tryz.prog.funcNamed "floodmark/floodmarklaw01.NumTexts" = some 3 by kernel_rfl).symm.trans hf) |>.symm
  obtain rfl : fn = Tryz.f3 := (Option.some.inj (Tryz.func3.symm.trans hfn)).symm
  refine ⟨by kernel_rfl, fun j t ht => ?_⟩
  rw [Tryz.params3] at ht
  have hm := Array.mem_of_getElem? ht
  have ho : t = 23 ∨ t = 9 := by simpa using hm
  rcases ho with rfl | rfl
  · exact (show Tryz.prog.wantsStandIn 23 = false by kernel_rfl)
  · exact (show Tryz.prog.wantsStandIn 9 = false by kernel_rfl)

theorem card_NumTexts : Rows.NumTextsCardSaid :=
  Claim7.holds_tied_plain_at .later [] _ _ _ _ said_NumTexts (fun _ h => by cases h) (by kernel_rfl) (fun _ h => by cases h) numTexts_row_tie rfl ⟨rfl, rfl⟩ (by kernel_rfl) rfl plain_NumTexts (by kernel_rfl)
end Go.Proofs.YtgcmogldiahdpaaGreatDoor

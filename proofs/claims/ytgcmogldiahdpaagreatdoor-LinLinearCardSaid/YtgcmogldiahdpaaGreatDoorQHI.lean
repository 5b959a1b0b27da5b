/- Contracts of Value and Primitive. -/
import Derived.Test.YtgcmogldiahdpaaGreatDoorQHH
import Derived.Test.YtgcmogldiahdpaaGreatDoorQGS4
import Derived.Deep.RegionLawGrows
import Derived.Deep.RegionHeld3
import Derived.Test.YtgcmogldiahdpaaGreatDoorQHG
namespace Go.Proofs.YtgcmogldiahdpaaGreatDoor
open Go.RowKit Fm
theorem mkNums0 (n : Nat) (hn : n ≤ 4294967296) (w : World) : (Instr.makeSlice 34 (.int .i64 0) (.int .i64 (n : Int))).run Tryz.prog w =
    .ok (.slice (some ⟨w.heap.size, 0, none⟩) 0 n) (w.alloc (.cells (zeroNums n) 23)) := by
  obtain ⟨i0, hi, hz0, hz1, hz2⟩ := info_parts info_numz
  have h := run_make (P := Tryz.prog) w 34 23 i0 (.agg #[.int .i64 0, .int .i64 0]) Tryz.underlying34 hi hz0 .i64 .i64 0 n (by omega) (by omega) (by rw [hz2]; omega) (by omega)
  rw [h, hz1]; simp only [Int.toNat_natCast, Int.toNat_zero, zeroNums]
theorem zeroNums_nod (n : Nat) : ∀ u ∈ (zeroNums n).toList, NoDig u := by
  intro u hu
  obtain ⟨j, hj, rfl⟩ := List.mem_iff_getElem.1 hu
  rw [Array.getElem_toList]
  rcases Nat.mod_two_eq_zero_or_one j with h | h
  · simp [zeroNums, madeCells, Value.cells, h]; exact NoDig.int _
  · simp [zeroNums, madeCells, Value.cells, h]; exact NoDig.int _
theorem znum_nod : ∀ u ∈ (Value.agg #[.int .i64 0, .int .i64 0]).cells.toList, NoDig u := by
  intro u hu
  simp [Value.cells] at hu
  subst hu
  exact NoDig.int _
theorem OwE.madeN (w0 w : World) (n : Nat) (hn : n ≤ 4294967296) (hu : Up w0 w) : OwE eltN w0 (w.alloc (.cells (zeroNums n) 23)) 23 (.slice (some ⟨w.heap.size, 0, none⟩) 0 n) [] :=
  ⟨[], trivial, World.ownsRow_made w (zeroNums n) n hu.size (by unfold maxLen; omega) (by simp [zeroNums, madeCells]; rfl), fun g hg => by cases hg; exact nodig_heap (heap_alloc_new w _) (zeroNums_nod n)⟩
theorem RdE.n {w : World} {A : Option Addr} {xs : List (Int × Int)} (h : RdE eltN w A xs) : RdN w A xs := fun hn => by
  obtain ⟨b, off, rfl, hb, hc⟩ := h hn
  refine ⟨b, off, rfl, hb, fun i hi => ?_⟩
  obtain ⟨cs, e, h2⟩ := hc i hi
  rw [show eltN.rel w none cs xs[i] = (cs = [.int .i64 xs[i].1, .int .i64 xs[i].2]) from rfl] at e
  subst e
  exact ⟨h2 0 _ rfl, h2 1 _ rfl⟩
/-- The value of a form for a point, as a sum of products. -/
def valQ (f : List Int × Int) (xs : List (Int × Int)) : Rat := dotQ ((rowF f).map fun y => (y, (1 : Int))) (xs ++ [(1, 1)])
theorem okNum_one {y : Int} (h : limI y = true) : okNum y 1 = true := by
  simp only [limI, decide_eq_true_eq] at h
  simp only [okNum, decide_eq_true_eq]
  exact ⟨by omega, by omega, by omega, by omega, by simp⟩
theorem okAll_row {n : Int} {f : List Int × Int} (hv : validF n f = true) : okAll ((rowF f).map fun y => (y, (1 : Int))) = true := by
  simp only [validF, Bool.and_eq_true, List.all_eq_true] at hv
  unfold okAll
  rw [List.all_eq_true]
  intro p hp
  obtain ⟨y, hy, rfl⟩ := List.mem_map.1 hp
  rcases List.mem_append.1 hy with h | h
  · exact okNum_one (hv.2 y h)
  · simp at h; subst h; exact okNum_one hv.1.2
theorem validP_ok {n : Int} {xs : List (Int × Int)} (hp : validP n xs = true) : okAll xs = true := by
  simp only [validP, Bool.and_eq_true] at hp
  exact hp.2
theorem rng_row {n : Int} {f : List Int × Int} (hv : validF n f = true) : ∀ p, p ∈ (rowF f).map (fun y => (y, (1 : Int))) → Rng p.1 p.2 := by
  intro p hp
  have h := okAll_row hv
  unfold okAll at h
  rw [List.all_eq_true] at h
  have h2 := h p hp
  simp only [okNum, decide_eq_true_eq] at h2
  exact ⟨by omega, by omega, by omega, by omega⟩
theorem add_off (b off j : Nat) : (⟨b, off, none⟩ : Addr).add j = ⟨b, off + j, none⟩ := by
  by_cases h : j = 0
  · subst h; simp [Addr.add]
  · simp [Addr.add, h]
theorem numDot_val (A B : Option Addr) (c d : Nat) (l m : List (Int × Int)) (w : World) (hlm : l.length = m.length) (hn : l.length ≤ 1000) (hc : l.length ≤ c) (hcm : c ≤ maxLen) (hd : m.length ≤ d) (hdm : d ≤ maxLen) (hr : RdN w A l) (hs : RdN w B m) (hl : okAll l = true) (hm : okAll m = true) (hx : ∀ p, p ∈ l → Rng p.1 p.2) (hy : ∀ p, p ∈ m → Rng p.1 p.2) (ht : Tab w) :
    Calls Tryz.prog 74 #[.slice A l.length c, .slice B m.length d] w fun e w' => e = .returned (.tuple #[.agg #[.int .i64 (numX true (dotQ l m)), .int .i64 (numY true (dotQ l m))], .int .i64 (numE true (dotQ l m))]) ∧ Up w w' := by
  have HN1 := Lib.hid (fun W (hu : Up w W) => numAllValid_any A c l W hc hcm (hr.up hu) hx (ht.up hu))
  have HN2 := Lib.hid (fun W (hu : Up w W) => numAllValid_any B d m W hd hdm (hs.up hu) hy (ht.up hu))
  rw [hl] at HN1
  rw [hm, ← hlm] at HN2
  rw [← hlm]
  exact numDot_ok A B c d l.length (dotQ l m) _ _ _ w HN1 HN2 (Lib.hid fun W' hu' => products_any l.length A B c d l m W' (Nat.le_refl _) hlm hc (by omega) (by omega) (hr.up hu') (hs.up hu') hl hm (ht.up hu')) (Lib.hid fun W' u k => by
    have := limited_any u (dotQ l m) W' k
    simpa only [numX, numY, numE, Bool.true_and, if_true] using this)
theorem flat_append (xs ys : List (Int × Int)) : flat (xs ++ ys) = flat xs ++ flat ys := by
  induction xs with
  | nil => rfl
  | cons x xs ih => simp only [List.cons_append, flat]; rw [ih]
theorem CellN.farL {w : World} {g g' : Nat} {x y : Int} (h : CellN w g x y) (hne : g ≠ g') (u v : Value) : CellN ((w.setCell ⟨g', 0, none⟩ u).setCell ⟨g', 1, none⟩ v) g x y := by
  unfold CellN at *
  rw [Below.heap_setCell _ ⟨g', 1, none⟩ v g hne, Below.heap_setCell _ ⟨g', 0, none⟩ u g hne]
  exact h
theorem step_append_one {ops : Array Oper} {o : Oper} {a : Act} {W : World} {K : Act → World → Prop} {Q : Exit → Act → World → Prop} {E : Prop}
    (hg : o.guard = none) (s x : Operand) (t : TypeId) (hop : o.op = Op.call { callee := Callee.builtin Builtin.append, args := #[s, x], argTypes := #[t, t] })
    (h1 : Tryz.prog.underlying t = some (.slice 23)) (B : Option Addr) (n : Nat) (hn : n ≤ 8) (hs : a.eval s = .slice B n n) (xs : List (Int × Int)) (hxl : xs.length = n) (hr : RdN W B xs) (hB : B = none → n = 0 ∧ n = 0) (g : Nat) (y z : Int) (hx : a.eval x = .slice (some ⟨g, 0, none⟩) 1 1)
    (hc : ∀ j u, ([.int .i64 y, .int .i64 z] : List Value)[j]? = some u → W.cell? ((⟨g, 0, none⟩ : Addr).add j) = some u)
    (hK : ∀ A6 c6 W', n + 1 ≤ c6 → c6 ≤ maxLen → RdN W' A6 (xs ++ [(y, z)]) → Up W W' → K (a.put o.dst (.slice A6 (n + 1) c6)) W') :
    if Region.wanted o (yielded ops a.tmps) = true then Oper.wp Tryz.prog o a W K Q else E := by
  obtain ⟨i0, hi0, hz0, hz1, hz2⟩ := info_parts info_numz
  refine step_append_grows hg s x t hop 23 i0 (.agg #[.int .i64 0, .int .i64 0]) 2 16 h1 hi0 hz0 hz1 hz2 rfl (by decide) B n n (flat xs) hs hB (by rw [flat_length, hxl]) ?_ ⟨g, 0, none⟩ 1 1 [.int .i64 y, .int .i64 z] hx rfl hc (by intro u hu; simp at hu; rcases hu with rfl | rfl <;> rfl) (by omega) (by unfold maxLen; omega) (by omega) ?_
  · intro b9 e9 j9 u9 h9
    obtain ⟨b, off, e, -⟩ := hr (by intro e; subst e; cases h9)
    rw [e9] at e
    cases e
    have h3 : j9 < 2 * n + 1 := by
      have := List.getElem?_eq_some_iff.1 h9
      obtain ⟨h, -⟩ := this
      rw [flat_length] at h
      omega
    rw [add_off]
    subst e9
    exact flat_cells hr j9 u9 h9
  · intro v9 w9 hown9 hgr9
    have hfl2 : flat xs ++ [.int .i64 y, .int .i64 z] = flat (xs ++ [(y, z)]) := (flat_append xs [(y, z)]).symm
    rw [hfl2] at hown9
    rw [show n + 1 = (xs ++ [(y, z)]).length by simp [hxl]] at hown9
    obtain ⟨A6, c6, rfl, k1, k2, k3⟩ := owns_rdN hown9
    have hl : (xs ++ [(y, z)]).length = n + 1 := by simp [hxl]
    rw [hl] at k1
    have := hK A6 c6 w9 k1 k2 k3 ⟨hgr9.os, hgr9.tape, hgr9.output, hgr9.size, fun j hj => hgr9.block j hj (by intro e; cases e)⟩
    rw [← hl] at this
    exact this
set_option maxHeartbeats 1000000 in
set_option maxRecDepth 10000 in
theorem linValue_ok (A B : Option Addr) (c d n : Nat) (f : List Int × Int) (xs : List (Int × Int)) (w : World) (hn : n ≤ 8) (hfl : f.1.length = n) (hxl : xs.length = n) (hc : xs.length ≤ d) (hcm : d ≤ maxLen) (hr : RdI w A f.1) (hs : RdN w B xs)
    (hv : validF n f = true) (hp : validP n xs = true) (hx : ∀ p, p ∈ xs → Rng p.1 p.2) (ht : Tab w) :
    Calls Tryz.prog 18 #[.int .i64 n, .agg #[.slice A f.1.length c, .int .i64 f.2], .slice B xs.length d] w fun e w' => e = .returned (.tuple #[.agg #[.int .i64 (numX true (valQ f xs)), .int .i64 (numY true (valQ f xs))], .int .i64 (numE true (valQ f xs))]) ∧ Up w w' := by
  have hok1 : okAll ((rowF f).map fun y => (y, (1 : Int))) = true := okAll_row hv
  have hok2 : okAll (xs ++ [(1, 1)]) = true := by
    have := validP_ok hp
    unfold okAll at this ⊢
    rw [List.all_append, this]; decide
  have HV := Lib.hid (fun W (hu : Up w W) => validForm_any A c n f W (by omega) (hr.up hu))
  have HP := Lib.hid (fun W (hu : Up w W) => linValidPoint_any B d n xs W hc hcm (hs.up hu) hx (ht.up hu))
  rw [hv] at HV
  rw [hp] at HP
  rw [hfl] at HV ⊢
  rw [hxl] at HP ⊢
  have hmk : ∀ W, (Instr.makeSlice 34 (.int .i64 0) (.int .i64 ((n : Int) + 1))).run Tryz.prog W = .ok (.slice (some ⟨W.heap.size, 0, none⟩) 0 (n + 1)) (W.alloc (.cells (zeroNums (n + 1)) 23)) := fun W => by
    have := mkNums0 (n + 1) (by omega) W
    simpa using this
  go_enter Tryz.func18, Tryz.ntmps18
  go_wp2_with fail
  refine Calls.mono (HV.out _ (by (repeat (first | exact Below.refl _ _ | exact Go.RowKit.Hid.out (by assumption) | refine Up.trans ?_ (Up.drew _) | refine Up.trans ?_ (Up.drewN _ _) | refine Up.trans ?_ (Up.alloc _ _) | refine Up.trans ?_ (Go.RowKit.Hid.out (by assumption)))))) ?_
  rintro e w1 ⟨rfl, hu⟩
  have HU1 := Lib.hid hu
  clear hu
  go_wp2_with fail
  refine Calls.mono (HP.out _ (by (repeat (first | exact Below.refl _ _ | exact Go.RowKit.Hid.out (by assumption) | refine Up.trans ?_ (Up.drew _) | refine Up.trans ?_ (Up.drewN _ _) | refine Up.trans ?_ (Up.alloc _ _) | refine Up.trans ?_ (Go.RowKit.Hid.out (by assumption)))))) ?_
  rintro e w2 ⟨rfl, hu⟩
  have HU2 := Lib.hid hu
  clear hu
  go_wp2
  clear hmk
  have HF0 := Lib.hid ((CellF.new w A n c f.2).up ((Up.alloc _ (.cells #[.int .i64 0, .int .i64 0] 23)).trans (HU1.out.trans HU2.out)))
  have HR0 := Lib.hid ((CellN.new (w.alloc (.cells #[.slice A n c, .int .i64 f.2] 33)) 0 0).up (HU1.out.trans HU2.out))
  rw [size_alloc] at HR0
  have HW2 := Lib.hid ((((Up.alloc w (.cells #[.slice A n c, .int .i64 f.2] 33)).trans (Up.alloc _ (.cells #[.int .i64 0, .int .i64 0] 23))).trans (HU1.out.trans HU2.out)))
  have HO1 := Lib.hid (CellN.new w2 1 1)
  obtain ⟨wA, hwA⟩ : ∃ wA, wA = w2.alloc (.cells #[.int .i64 1, .int .i64 1] 23) := ⟨_, rfl⟩
  rw [← hwA] at HO1 ⊢
  have HUA := Lib.hid (show Up w2 wA by rw [hwA]; exact Up.alloc _ _)
  have hsz : wA.heap.size = w2.heap.size + 1 := by rw [hwA, size_alloc]
  have HOW := Lib.hid (OwE.madeN wA wA (n + 1) (by omega) (Up.refl _))
  have HUB := Lib.hid (Up.alloc wA (.cells (zeroNums (n + 1)) 23))
  rw [hsz] at HOW
  clear hwA hsz
  generalize wA.alloc (.cells (zeroNums (n + 1)) 23) = wB at *
  have HF := Lib.hid (HF0.out.up HUA.out)
  have HR := Lib.hid (HR0.out.up HUA.out)
  have HGR := Lib.hid (show w.heap.size ≤ w.heap.size + 1 by omega)
  have HUW := Lib.hid (HW2.out.trans HUA.out)
  have HNE0 := Lib.hid (show w2.heap.size ≠ w.heap.size + 1 from (Nat.ne_of_lt HR0.out.lt).symm)
  obtain ⟨g0, hg0⟩ : ∃ g0, g0 = w.heap.size := ⟨_, rfl⟩
  obtain ⟨g1, hg1⟩ : ∃ g1, g1 = w.heap.size + 1 := ⟨_, rfl⟩
  obtain ⟨g2, hg2⟩ : ∃ g2, g2 = w2.heap.size := ⟨_, rfl⟩
  rw [← hg0] at HF
  rw [← hg1] at HR HGR HNE0
  rw [← hg2] at HO1 HOW HNE0
  rw [← hg1, ← hg0, ← hg2]
  clear HF0 HR0 HW2 hg0 hg1 hg2
  go_loopw [9, 28] (fun v i wr => ∃ k : Nat, k ≤ n + 1 ∧ i = .int .i64 k ∧ Hid (OwE eltN wA wr 23 v (((rowF f).take k).map fun y => (y, 1))) ∧ Hid (Up wA wr)) (fun _ i _ => n + 1 - (intOf i).toNat)
  case atStart => exact ⟨0, by omega, rfl, HOW, HUB⟩
  case round =>
    obtain ⟨k, hk, rfl, HOK, HU⟩ := hrel
    have HRL : Hid ((rowF f).length = n + 1) := Lib.hid (by simp [rowF, hfl])
    by_cases hkn : k < n + 1
    · have hkl : k < (rowF f).length := by rw [HRL.out]; exact hkn
      have HAT := Lib.hid (fun W (hu : Up wr W) => linAt_any A c k f W hkl (hr.up (HUW.out.trans (HU.out.trans hu))))
      rw [hfl] at HAT
      have HNEXT : Hid (((rowF f).take (k + 1)).map (fun y => (y, (1 : Int))) = ((rowF f).take k).map (fun y => (y, 1)) ++ [((rowF f)[k], 1)]) := Lib.hid (by rw [List.take_succ_eq_append_getElem hkl, List.map_append]; rfl)
      have HLEN : Hid ((((rowF f).take k).map fun y => (y, (1 : Int))).length ≤ 1000000000) := Lib.hid (by rw [List.length_map, List.length_take]; omega)
      generalize (rowF f)[k] = y at *
      obtain ⟨p0, p1, -, -, lg⟩ := (HF.out.up HU.out).facts
      clear hkl
      go_wp2_with fail
      refine Calls.mono (HAT.out _ (Up.refl _)) ?_
      rintro e w3 ⟨rfl, hu⟩
      have HU3 := Lib.hid hu
      clear hu p0 p1 lg
      go_wp2_with (at_builtin; refine wpList_pushE eltN wA rfl (.tmp 31) (.tmp 35) 34 23 rfl _ 16 Tryz.underlying34 info_numz rfl znum_nod (by decide) _ _ rfl (HOK.out.up (HU3.out.trans (Up.alloc _ _))) (by (repeat (first | exact Below.refl _ _ | exact Go.RowKit.Hid.out (by assumption) | refine Up.trans ?_ (Up.drew _) | refine Up.trans ?_ (Up.drewN _ _) | refine Up.trans ?_ (Up.alloc _ _) | refine Up.trans ?_ (Go.RowKit.Hid.out (by assumption))))) ⟨w3.heap.size, 0, none⟩ rfl [.int .i64 y, .int .i64 1] (y, 1) (new_cells w3 [.int .i64 y, .int .i64 1] _) rfl HLEN.out ?_; intro v' w' hown' hup')
      exact ⟨⟨k + 1, by omega, by simp, by rw [HNEXT.out]; exact Lib.hid hown', Lib.hid hup'⟩, by simp [intOf]; omega⟩
    · have hke : k = n + 1 := by omega
      subst hke
      rw [List.take_of_length_le (by rw [HRL.out]; exact Nat.le_refl _)] at HOK
      obtain ⟨A5, c5, hv5, k1, k2, k3, -⟩ := HOK.out.read (fun h => h)
      rw [List.length_map, HRL.out] at hv5 k1
      have HLN := Lib.hid (And.intro k1 (And.intro k2 k3.n))
      rw [hv5]
      obtain ⟨o0, o1, -, -, lo⟩ := (HO1.out.up HU.out).facts
      clear hv5 k1 k2 k3
      have j0 : (0 : Int) ≤ (n : Int) := by omega
      have j1 : (n : Int) ≤ (d : Int) := by omega
      have j2 : n ≤ d := by omega
      obtain ⟨i0, hi0, hz0, hz1, hz2⟩ := info_parts info_numz
      have hbn : B = none → n = 0 ∧ n = 0 := fun hb => by
        rcases Nat.eq_zero_or_pos n with h0 | h0
        · exact ⟨h0, h0⟩
        · obtain ⟨b9, off9, e9, -⟩ := hs (by intro e; subst e; simp at hxl; omega)
          rw [hb] at e9; cases e9
      have HBN := Lib.hid hbn
      have HSX := Lib.hid (hs.up (HUW.out.trans HU.out))
      have HXL := Lib.hid hxl
      have HDOT := Lib.hid (fun W A6 c6 (hu : Up wr W) (h1 : n + 1 ≤ c6) (h2 : c6 ≤ maxLen) (h3 : RdN W A6 (xs ++ [(1, 1)])) => numDot_val A5 A6 c5 c6 ((rowF f).map fun y => (y, (1 : Int))) (xs ++ [(1, 1)]) W (by simp [rowF, hfl, hxl]) (by simp [rowF, hfl]; omega) (by rw [List.length_map, HRL.out]; exact HLN.out.1) HLN.out.2.1 (by rw [List.length_append, hxl]; exact h1) h2 (HLN.out.2.2.up hu) h3 hok1 hok2 (rng_row hv)
        (fun p hp => by
          rcases List.mem_append.1 hp with h | h
          · exact hx p h
          · simp at h; subst h; exact ⟨by omega, by omega, by omega, by omega⟩) (ht.up (HUW.out.trans (HU.out.trans hu))))
      have hl1 : ((rowF f).map fun y => (y, (1 : Int))).length = n + 1 := by simp [rowF, hfl]
      have hl2 : (xs ++ [((1 : Int), (1 : Int))]).length = n + 1 := by simp [hxl]
      rw [hl1, hl2] at HDOT
      rw [show dotQ ((rowF f).map fun y => (y, (1 : Int))) (xs ++ [(1, 1)]) = valQ f xs from rfl] at HDOT
      obtain ⟨q, hq⟩ : ∃ q, q = valQ f xs := ⟨_, rfl⟩
      rw [← hq] at HDOT
      have HQ := Lib.hid hq
      clear hq
      have HOC := Lib.hid (HO1.out.up HU.out)
      have HRC := Lib.hid (HR.out.up HU.out)
      have HNE : Hid (g2 ≠ g1) := HNE0
      have HUA2 := Lib.hid (HUW.out.trans HU.out)
      clear hbn hl1 hl2 hv hp hok1 hok2
      go_upto_region 10 with fail
      go_region_held3 (fun w' => w'.cell? ⟨g2, 0, none⟩ = some (.int .i64 1) ∧ w'.cell? ⟨g2, 1, none⟩ = some (.int .i64 1)) (go_keep)
        ((first
          | (go_at_call 74
             refine Calls.mono (HDOT.out _ _ _ (by (repeat (first | exact Below.refl _ _ | exact Go.RowKit.Hid.out (by assumption) | refine Up.trans ?_ (Up.drew _) | refine Up.trans ?_ (Up.drewN _ _) | refine Up.trans ?_ (Up.alloc _ _) | refine Up.trans ?_ (Go.RowKit.Hid.out (by assumption))))) HAP9.out.1 HAP9.out.2.1 HAP9.out.2.2) ?_
             rintro e w10 ⟨rfl, hu⟩
             have HU10 := Lib.hid hu
             have HR8 := Lib.hid (HRC.out.up (w' := w10) (by (repeat (first | exact Below.refl _ _ | exact Go.RowKit.Hid.out (by assumption) | refine Up.trans ?_ (Up.drew _) | refine Up.trans ?_ (Up.drewN _ _) | refine Up.trans ?_ (Up.alloc _ _) | refine Up.trans ?_ (Go.RowKit.Hid.out (by assumption))))))
             obtain ⟨o0, o1, -, -, lo⟩ := (HOC.out.up (w' := w10) (by (repeat (first | exact Below.refl _ _ | exact Go.RowKit.Hid.out (by assumption) | refine Up.trans ?_ (Up.drew _) | refine Up.trans ?_ (Up.drewN _ _) | refine Up.trans ?_ (Up.alloc _ _) | refine Up.trans ?_ (Go.RowKit.Hid.out (by assumption)))))).facts
             obtain ⟨r0, r1, f0, f1, lr⟩ := HR8.out.facts
             have HFF := Lib.hid ((HR8.out.set (numX true q) (numY true q)).facts)
             obtain ⟨s0, s1, -, -, -⟩ := (CellN.farL (HOC.out.up (w' := w10) (by (repeat (first | exact Below.refl _ _ | exact Go.RowKit.Hid.out (by assumption) | refine Up.trans ?_ (Up.drew _) | refine Up.trans ?_ (Up.drewN _ _) | refine Up.trans ?_ (Up.alloc _ _) | refine Up.trans ?_ (Go.RowKit.Hid.out (by assumption)))))) HNE.out (.int .i64 (numX true q)) (.int .i64 (numY true q))).facts
             have HUF := Lib.hid ((HUA2.out.trans (show Up wr w10 by (repeat (first | exact Below.refl _ _ | exact Go.RowKit.Hid.out (by assumption) | refine Up.trans ?_ (Up.drew _) | refine Up.trans ?_ (Up.drewN _ _) | refine Up.trans ?_ (Up.alloc _ _) | refine Up.trans ?_ (Go.RowKit.Hid.out (by assumption)))))).stored HGR.out (.int .i64 (numX true q)) (.int .i64 (numY true q)))
             clear hu)
          | (refine step_append_one rfl (.tmp 42) (.tmp 44) 34 rfl rfl B n hn rfl xs HXL.out (HSX.out.up (by (repeat (first | exact Below.refl _ _ | exact Go.RowKit.Hid.out (by assumption) | refine Up.trans ?_ (Up.drew _) | refine Up.trans ?_ (Up.drewN _ _) | refine Up.trans ?_ (Up.alloc _ _) | refine Up.trans ?_ (Go.RowKit.Hid.out (by assumption)))))) HBN.out wr.heap.size 1 1 rfl (fun j9 u9 h9 => new_cells wr [.int .i64 1, .int .i64 1] _ j9 u9 h9) ?_
             intro A6 c6 w9 k1 k2 k3 hu9
             have HAP9 := Lib.hid (And.intro k1 (And.intro k2 k3))
             have HU9 := Lib.hid hu9
             obtain ⟨o0, o1, -, -, lo⟩ := (HOC.out.up (w' := w9) (by (repeat (first | exact Below.refl _ _ | exact Go.RowKit.Hid.out (by assumption) | refine Up.trans ?_ (Up.drew _) | refine Up.trans ?_ (Up.drewN _ _) | refine Up.trans ?_ (Up.alloc _ _) | refine Up.trans ?_ (Go.RowKit.Hid.out (by assumption)))))).facts
             clear k1 k2 k3 hu9)))
      go_wp2
      obtain ⟨z0, z1, -, -, -⟩ := HFF.out
      refine bodyPost_ret (by simp [results, Tryz.results18, go_sem, z0, z1]; try rfl) rfl ?_
      rw [← HQ.out]
      exact ⟨rfl, HUF.out⟩
set_option maxHeartbeats 1000000 in
set_option maxRecDepth 10000 in
theorem linValue_bad1 (A B : Option Addr) (c d m : Nat) (g : Nat) (n k : Int) (w : World)
    (HV : Hid (∀ W, Up w W → Calls Tryz.prog 24 #[.int .i64 n, .agg #[.slice A m c, .int .i64 k]] W fun e w' => e = .returned (.bool false) ∧ Up W w')) :
    Calls Tryz.prog 18 #[.int .i64 n, .agg #[.slice A m c, .int .i64 k], .slice B g d] w fun e w' => e = .returned (.tuple #[.agg #[.int .i64 0, .int .i64 0], .int .i64 1]) ∧ Up w w' := by
  go_enter Tryz.func18, Tryz.ntmps18
  go_wp2_with fail
  refine Calls.mono (HV.out _ (by (repeat (first | exact Below.refl _ _ | exact Go.RowKit.Hid.out (by assumption) | refine Up.trans ?_ (Up.drew _) | refine Up.trans ?_ (Up.drewN _ _) | refine Up.trans ?_ (Up.alloc _ _) | refine Up.trans ?_ (Go.RowKit.Hid.out (by assumption)))))) ?_
  rintro e w1 ⟨rfl, hu⟩
  have HU1 := Lib.hid hu
  clear hu
  have HR := Lib.hid ((CellN.new (w.alloc (.cells #[.slice A m c, .int .i64 k] 33)) 0 0).up HU1.out)
  rw [size_alloc] at HR
  have HFF := Lib.hid ((HR.out.set 0 0).facts)
  have HUF := Lib.hid ((show Up w w1 from ((Up.alloc w (.cells #[.slice A m c, .int .i64 k] 33)).trans (Up.alloc _ (.cells #[.int .i64 0, .int .i64 0] 23))).trans HU1.out).stored (show w.heap.size ≤ w.heap.size + 1 by omega) (.int .i64 0) (.int .i64 0))
  obtain ⟨r0, r1, f0, f1, lr⟩ := HR.out.facts
  go_wp2
  obtain ⟨z0, z1, -, -, -⟩ := HFF.out
  refine bodyPost_ret (by simp [results, Tryz.results18, go_sem, z0, z1]; try rfl) rfl ?_
  exact ⟨rfl, HUF.out⟩
set_option maxHeartbeats 1000000 in
set_option maxRecDepth 10000 in
theorem linValue_bad2 (A B : Option Addr) (c d m : Nat) (g : Nat) (n k : Int) (w : World)
    (HV : Hid (∀ W, Up w W → Calls Tryz.prog 24 #[.int .i64 n, .agg #[.slice A m c, .int .i64 k]] W fun e w' => e = .returned (.bool true) ∧ Up W w'))
    (HP : Hid (∀ W, Up w W → Calls Tryz.prog 22 #[.int .i64 n, .slice B g d] W fun e w' => e = .returned (.bool false) ∧ Up W w')) :
    Calls Tryz.prog 18 #[.int .i64 n, .agg #[.slice A m c, .int .i64 k], .slice B g d] w fun e w' => e = .returned (.tuple #[.agg #[.int .i64 0, .int .i64 0], .int .i64 1]) ∧ Up w w' := by
  go_enter Tryz.func18, Tryz.ntmps18
  go_wp2_with fail
  refine Calls.mono (HV.out _ (by (repeat (first | exact Below.refl _ _ | exact Go.RowKit.Hid.out (by assumption) | refine Up.trans ?_ (Up.drew _) | refine Up.trans ?_ (Up.drewN _ _) | refine Up.trans ?_ (Up.alloc _ _) | refine Up.trans ?_ (Go.RowKit.Hid.out (by assumption)))))) ?_
  rintro e w1 ⟨rfl, hu⟩
  have HU1 := Lib.hid hu
  clear hu
  go_wp2_with fail
  refine Calls.mono (HP.out _ (by (repeat (first | exact Below.refl _ _ | exact Go.RowKit.Hid.out (by assumption) | refine Up.trans ?_ (Up.drew _) | refine Up.trans ?_ (Up.drewN _ _) | refine Up.trans ?_ (Up.alloc _ _) | refine Up.trans ?_ (Go.RowKit.Hid.out (by assumption)))))) ?_
  rintro e w2 ⟨rfl, hu⟩
  have HU2 := Lib.hid hu
  clear hu
  have HR := Lib.hid ((CellN.new (w.alloc (.cells #[.slice A m c, .int .i64 k] 33)) 0 0).up (HU1.out.trans HU2.out))
  rw [size_alloc] at HR
  have HFF := Lib.hid ((HR.out.set 0 0).facts)
  have HUF := Lib.hid ((show Up w w2 from ((Up.alloc w (.cells #[.slice A m c, .int .i64 k] 33)).trans (Up.alloc _ (.cells #[.int .i64 0, .int .i64 0] 23))).trans (HU1.out.trans HU2.out)).stored (show w.heap.size ≤ w.heap.size + 1 by omega) (.int .i64 0) (.int .i64 0))
  obtain ⟨r0, r1, f0, f1, lr⟩ := HR.out.facts
  go_wp2
  obtain ⟨z0, z1, -, -, -⟩ := HFF.out
  refine bodyPost_ret (by simp [results, Tryz.results18, go_sem, z0, z1]; try rfl) rfl ?_
  exact ⟨rfl, HUF.out⟩
end Go.Proofs.YtgcmogldiahdpaaGreatDoor
namespace Go.Proofs.YtgcmogldiahdpaaGreatDoor
open Go.RowKit Fm
/-- A form divided by the greatest common divisor of its integers. -/
def primF (f : List Int × Int) : List Int × Int := ((primR (rowF f)).take f.1.length, (primR (rowF f)).getD f.1.length 0)
theorem tdiv_lim {x : Int} (d : Nat) (h : limI x = true) : limI (x.tdiv (d : Int)) = true := by
  simp only [limI, decide_eq_true_eq] at h ⊢
  have h1 : (x.tdiv (d : Int)).natAbs ≤ x.natAbs := by
    rw [Int.natAbs_tdiv]; exact Nat.div_le_self _ _
  omega
theorem primR_lim {r : List Int} (h : r.all limI = true) : (primR r).all limI = true := by
  unfold primR
  split
  · exact h
  · rw [List.all_map, List.all_eq_true]
    rw [List.all_eq_true] at h
    intro x hx
    exact tdiv_lim _ (h x hx)
theorem rowF_lim {n : Int} {f : List Int × Int} (hv : validF n f = true) : (rowF f).all limI = true := by
  simp only [validF, Bool.and_eq_true] at hv
  simp [rowF, hv.1.2]
  have := hv.2
  rw [List.all_eq_true] at this
  exact this
theorem rowF_bd {n : Int} {f : List Int × Int} (hv : validF n f = true) : Bd 67108864 (rowF f) := by
  intro y hy
  have h := rowF_lim hv
  rw [List.all_eq_true] at h
  have := h y hy
  simp only [limI, decide_eq_true_eq] at this
  exact Nat.le_trans (bl_small (by omega)) (by omega)
set_option maxHeartbeats 1000000 in
set_option maxRecDepth 10000 in
theorem linPrim_ok (A : Option Addr) (c n : Nat) (f : List Int × Int) (w : World) (hn : n ≤ 8) (hfl : f.1.length = n) (hr : RdI w A f.1) (hv : validF n f = true) (ht : Tab w) :
    Calls Tryz.prog 20 #[.int .i64 n, .agg #[.slice A f.1.length c, .int .i64 f.2]] w fun e w' => ∃ A' c', e = .returned (.tuple #[.agg #[.slice A' n c', .int .i64 (primF f).2], .int .i64 0]) ∧ RdI w' A' (primF f).1 ∧ Up w w' := by
  have HV := Lib.hid (fun W (hu : Up w W) => validForm_any A c n f W (by omega) (hr.up hu))
  rw [hv] at HV
  have HL := rowF_lim hv
  have HLM : ∀ y, y ∈ f.1 ++ [f.2] → -9223372036854775808 ≤ y ∧ y ≤ 9223372036854775807 := fun y hy => by
    rw [List.all_eq_true] at HL
    have := HL y hy
    simp only [limI, decide_eq_true_eq] at this
    omega
  have HO := Lib.hid (fun W (hu : Up w W) => rowOf_any A c f.1 f.2 W (by omega) (hr.up hu) (fun y hy => HLM y (List.mem_append_left _ hy)) (HLM f.2 (by simp)))
  have HPR := Lib.hid (fun W A2 c2 (hu : Up w W) (h1 : (rowF f).length ≤ c2) (h2 : c2 ≤ maxLen) (h3 : RdZ W A2 (rowF f)) => rowPrim_any A2 c2 (rowF f) W h1 h2 (by simp [rowF]; omega) h3 (rowF_bd hv) (ht.up hu))
  have HFM := Lib.hid (fun W A2 c2 (h3 : RdZ W A2 (primR (rowF f))) => rowForm_any A2 c2 n (primR (rowF f)) W (by omega) (by rw [primR_length]; simp [rowF, hfl]) h3)
  have HAL := Lib.hid (primR_lim HL)
  rw [hfl] at HV HO ⊢
  clear HL HLM
  rw [show f.1 ++ [f.2] = rowF f from rfl] at HO
  have hl1 : (rowF f).length = n + 1 := by simp [rowF, hfl]
  have hl2 : (primR (rowF f)).length = n + 1 := by rw [primR_length, hl1]
  have hp1 : (primF f).1 = (primR (rowF f)).take n := by rw [← hfl]; rfl
  have hp2 : (primF f).2 = (primR (rowF f)).getD n 0 := by rw [← hfl]; rfl
  simp only [RowF] at HO
  rw [hl1] at HO
  rw [hl1, hl2] at HPR
  rw [hl2] at HFM
  rw [hp1, hp2]
  simp only [FormOut] at HFM
  generalize primR (rowF f) = R2 at *
  generalize rowF f = R at *
  generalize R2.getD n 0 = y at *
  clear hl1 hl2 hp1 hp2 hv hr
  go_enter Tryz.func20, Tryz.ntmps20
  go_wp2_with fail
  refine Calls.mono (HV.out _ (by (repeat (first | exact Below.refl _ _ | exact Go.RowKit.Hid.out (by assumption) | refine Up.trans ?_ (Up.drew _) | refine Up.trans ?_ (Up.drewN _ _) | refine Up.trans ?_ (Up.alloc _ _) | refine Up.trans ?_ (Go.RowKit.Hid.out (by assumption)))))) ?_
  rintro e w1 ⟨rfl, hu⟩
  have HU1 := Lib.hid hu
  clear hu
  have HF0 := Lib.hid ((CellF.new w A n c f.2).up ((Up.alloc _ (.cells #[.slice none 0 0, .int .i64 0] 33)).trans HU1.out))
  have HR0 := Lib.hid ((CellF.new (w.alloc (.cells #[.slice A n c, .int .i64 f.2] 33)) none 0 0 0).up HU1.out)
  rw [size_alloc] at HR0
  have HUW := Lib.hid (((Up.alloc w (.cells #[.slice A n c, .int .i64 f.2] 33)).trans (Up.alloc _ (.cells #[.slice none 0 0, .int .i64 0] 33))).trans HU1.out)
  obtain ⟨g0, hg0⟩ : ∃ g0, g0 = w.heap.size := ⟨_, rfl⟩
  obtain ⟨g1, hg1⟩ : ∃ g1, g1 = w.heap.size + 1 := ⟨_, rfl⟩
  have HGR := Lib.hid (show w.heap.size ≤ g1 by omega)
  rw [← hg0] at HF0
  rw [← hg1] at HR0
  rw [← hg1, ← hg0]
  clear hg0 hg1
  obtain ⟨p0, p1, -, -, lg⟩ := HF0.out.facts
  go_wp2_with fail
  refine Calls.mono (HO.out _ (by (repeat (first | exact Below.refl _ _ | exact Go.RowKit.Hid.out (by assumption) | refine Up.trans ?_ (Up.drew _) | refine Up.trans ?_ (Up.drewN _ _) | refine Up.trans ?_ (Up.alloc _ _) | refine Up.trans ?_ (Go.RowKit.Hid.out (by assumption)))))) ?_
  rintro e w2 ⟨v, rfl, hv2, hu⟩
  obtain ⟨A2, c2, rfl, k1, k2, k3, k4⟩ := hv2
  have HU2 := Lib.hid hu
  have HK := Lib.hid (And.intro k1 (And.intro k2 k3))
  clear hu k1 k2 k3 p0 p1
  go_wp2_with fail
  refine Calls.mono (HPR.out _ _ _ (by (repeat (first | exact Below.refl _ _ | exact Go.RowKit.Hid.out (by assumption) | refine Up.trans ?_ (Up.drew _) | refine Up.trans ?_ (Up.drewN _ _) | refine Up.trans ?_ (Up.alloc _ _) | refine Up.trans ?_ (Go.RowKit.Hid.out (by assumption))))) HK.out.1 HK.out.2.1 HK.out.2.2) ?_
  rintro e w3 ⟨A3, c3, rfl, k1, k2, k3, -, hu⟩
  have HU3 := Lib.hid hu
  have HK3 := Lib.hid k3
  clear hu k1 k2 k3
  go_wp2_with fail
  refine Calls.mono (HFM.out _ _ _ HK3.out) ?_
  rintro e w4 ⟨⟨A4, m4, c4, x4, he, -, hf⟩, hu⟩
  obtain ⟨e1, e2, e3, hrd, hfr⟩ := hf HAL.out
  rw [e1, e2, e3, HAL.out] at he
  subst he
  clear e1 e2 e3 hf
  have HU4 := Lib.hid hu
  have HRD := Lib.hid hrd
  have HR8 := Lib.hid (HR0.out.up (w' := w4) (by (repeat (first | exact Below.refl _ _ | exact Go.RowKit.Hid.out (by assumption) | refine Up.trans ?_ (Up.drew _) | refine Up.trans ?_ (Up.drewN _ _) | refine Up.trans ?_ (Up.alloc _ _) | refine Up.trans ?_ (Go.RowKit.Hid.out (by assumption))))))
  have HNE : Hid (∀ b off, A4 = some ⟨b, off, none⟩ → b ≠ g1) := Lib.hid (fun b off e => by
    have h1 := hfr b off e
    have h2 := (HR0.out.up (w' := w3) (by (repeat (first | exact Below.refl _ _ | exact Go.RowKit.Hid.out (by assumption) | refine Up.trans ?_ (Up.drew _) | refine Up.trans ?_ (Up.drewN _ _) | refine Up.trans ?_ (Up.alloc _ _) | refine Up.trans ?_ (Go.RowKit.Hid.out (by assumption)))))).lt
    omega)
  clear hu hrd hfr
  have HUL := Lib.hid (Up.alloc ((w4.setCell ⟨g1, 0, none⟩ (.slice A4 n n)).setCell ⟨g1, 1, none⟩ (.int .i64 y)) (.cells #[.slice A4 n n, .int .i64 y] 33))
  obtain ⟨r0, r1, f0, f1, lr⟩ := HR8.out.facts
  have HFF := Lib.hid (((HR8.out.set A4 n n y).up HUL.out).facts)
  have HRP := Lib.hid ((((HRD.out).put HNE.out 0 (.slice A4 n n)).put HNE.out 1 (.int .i64 y)).up HUL.out)
  have HUF := Lib.hid (((show Up w w4 by (repeat (first | exact Below.refl _ _ | exact Go.RowKit.Hid.out (by assumption) | refine Up.trans ?_ (Up.drew _) | refine Up.trans ?_ (Up.drewN _ _) | refine Up.trans ?_ (Up.alloc _ _) | refine Up.trans ?_ (Go.RowKit.Hid.out (by assumption))))).stored HGR.out (.slice A4 n n) (.int .i64 y)).trans HUL.out)
  go_wp2
  obtain ⟨z0, z1, -, -, -⟩ := HFF.out
  refine bodyPost_ret (by simp [results, Tryz.results20, go_sem, z0, z1]; try rfl) rfl ?_
  exact ⟨A4, n, rfl, HRP.out, HUF.out⟩
set_option maxHeartbeats 1000000 in
set_option maxRecDepth 10000 in
theorem linPrim_bad (A : Option Addr) (c m : Nat) (n k : Int) (w : World)
    (HV : Hid (∀ W, Up w W → Calls Tryz.prog 24 #[.int .i64 n, .agg #[.slice A m c, .int .i64 k]] W fun e w' => e = .returned (.bool false) ∧ Up W w')) :
    Calls Tryz.prog 20 #[.int .i64 n, .agg #[.slice A m c, .int .i64 k]] w fun e w' => e = .returned (.tuple #[.agg #[.slice none 0 0, .int .i64 0], .int .i64 1]) ∧ Up w w' := by
  go_enter Tryz.func20, Tryz.ntmps20
  go_wp2_with fail
  refine Calls.mono (HV.out _ (by (repeat (first | exact Below.refl _ _ | exact Go.RowKit.Hid.out (by assumption) | refine Up.trans ?_ (Up.drew _) | refine Up.trans ?_ (Up.drewN _ _) | refine Up.trans ?_ (Up.alloc _ _) | refine Up.trans ?_ (Go.RowKit.Hid.out (by assumption)))))) ?_
  rintro e w1 ⟨rfl, hu⟩
  have HU1 := Lib.hid hu
  clear hu
  have HR := Lib.hid ((CellF.new (w.alloc (.cells #[.slice A m c, .int .i64 k] 33)) none 0 0 0).up HU1.out)
  rw [size_alloc] at HR
  have HFF := Lib.hid ((HR.out.set none 0 0 0).facts)
  have HUF := Lib.hid ((show Up w w1 from ((Up.alloc w (.cells #[.slice A m c, .int .i64 k] 33)).trans (Up.alloc _ (.cells #[.slice none 0 0, .int .i64 0] 33))).trans HU1.out).stored (show w.heap.size ≤ w.heap.size + 1 by omega) (.slice none 0 0) (.int .i64 0))
  obtain ⟨r0, r1, f0, f1, lr⟩ := HR.out.facts
  go_wp2
  obtain ⟨z0, z1, -, -, -⟩ := HFF.out
  refine bodyPost_ret (by simp [results, Tryz.results20, go_sem, z0, z1]; try rfl) rfl ?_
  exact ⟨rfl, HUF.out⟩
end Go.Proofs.YtgcmogldiahdpaaGreatDoor

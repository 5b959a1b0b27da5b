/- Contracts of Value and Primitive. -/
import Derived.Test.YtgcmogldiahdpaaGreatDoorQHH
import Derived.Test.YtgcmogldiahdpaaGreatDoorQGS2
import Derived.ArgAppend
import Derived.Deep.RegionLawGrows
import Derived.Deep.RegionHeld3
import Derived.Test.YtgcmogldiahdpaaGreatDoorQHG
namespace Go.Proofs.YtgcmogldiahdpaaGreatDoor
open Go.RowKit Fm
theorem mkNums0 (n : Nat) (hn : n ≤ 4294967296) (w : World) : (Instr.makeSlice 34 (.int .i64 0) (.int .i64 (n : Int))).run Tryz.prog w =
    .ok (.slice (some ⟨w.heap.size, 0, none⟩) 0 n) (w.alloc (.cells (zeroNums n) 23)) := by
  obtain ⟨i0, hi, hz0, hz1, hz2⟩ := info_parts info_numz
  have h := run_make (P := Tryz.prog) w 34 23 i0 (.agg #[.int .i64 0, .int .i64 0]) Tryz.underlying34 hi hz0 .i64 .i64 0 n (by omega) (by omega) (by rw [hz2]; omega) (by omega)
  rw [h, hz1]; simp only [Int.toNat_natCast, Int.toNat_zero, zeroNums]
theorem zeroNums_nod (n : Nat) : ∀ u ∈ (zeroNums n).toList, NoDig u := by
  intro u hu
  obtain ⟨j, hj, rfl⟩ := List.mem_iff_getElem.1 hu
  rw [Array.getElem_toList]
  rcases Nat.mod_two_eq_zero_or_one j with h | h
  · simp [zeroNums, madeCells, Value.cells, h]; exact NoDig.int _
  · simp [zeroNums, madeCells, Value.cells, h]; exact NoDig.int _
theorem znum_nod : ∀ u ∈ (Value.agg #[.int .i64 0, .int .i64 0]).cells.toList, NoDig u := by
  intro u hu
  simp [Value.cells] at hu
  subst hu
  exact NoDig.int _
theorem OwE.madeN (w0 w : World) (n : Nat) (hn : n ≤ 4294967296) (hu : Up w0 w) : OwE eltN w0 (w.alloc (.cells (zeroNums n) 23)) 23 (.slice (some ⟨w.heap.size, 0, none⟩) 0 n) [] :=
  ⟨[], trivial, World.ownsRow_made w (zeroNums n) n hu.size (by unfold maxLen; omega) (by simp [zeroNums, madeCells]; rfl), fun g hg => by cases hg; exact nodig_heap (heap_alloc_new w _) (zeroNums_nod n)⟩
theorem RdE.n {w : World} {A : Option Addr} {xs : List (Int × Int)} (h : RdE eltN w A xs) : RdN w A xs := fun hn => by
  obtain ⟨b, off, rfl, hb, hc⟩ := h hn
  refine ⟨b, off, rfl, hb, fun i hi => ?_⟩
  obtain ⟨cs, e, h2⟩ := hc i hi
  rw [show eltN.rel w none cs xs[i] = (cs = [.int .i64 xs[i].1, .int .i64 xs[i].2]) from rfl] at e
  subst e
  exact ⟨h2 0 _ rfl, h2 1 _ rfl⟩
theorem okNum_one {y : Int} (h : limI y = true) : okNum y 1 = true := by
  simp only [limI, decide_eq_true_eq] at h
  simp only [okNum, decide_eq_true_eq]
  exact ⟨by omega, by omega, by omega, by omega, by simp⟩
theorem numDot_val (A B : Option Addr) (c d : Nat) (l m : List (Int × Int)) (w : World) (hlm : l.length = m.length) (hn : l.length ≤ 1000) (hc : l.length ≤ c) (hcm : c ≤ maxLen) (hd : m.length ≤ d) (hdm : d ≤ maxLen) (hr : RdN w A l) (hs : RdN w B m) (hl : okAll l = true) (hm : okAll m = true) (hx : ∀ p, p ∈ l → Rng p.1 p.2) (hy : ∀ p, p ∈ m → Rng p.1 p.2) (ht : Tab w) :
    Calls Tryz.prog 74 #[.slice A l.length c, .slice B m.length d] w fun e w' => e = .returned (.tuple #[.agg #[.int .i64 (numX true (dotQ l m)), .int .i64 (numY true (dotQ l m))], .int .i64 (numE true (dotQ l m))]) ∧ Up w w' := by
  have HN1 := Lib.hid (fun W (hu : Up w W) => numAllValid_any A c l W hc hcm (hr.up hu) hx (ht.up hu))
  have HN2 := Lib.hid (fun W (hu : Up w W) => numAllValid_any B d m W hd hdm (hs.up hu) hy (ht.up hu))
  rw [hl] at HN1
  rw [hm, ← hlm] at HN2
  rw [← hlm]
  exact numDot_ok A B c d l.length (dotQ l m) _ _ _ w HN1 HN2 (Lib.hid fun W' hu' => products_any l.length A B c d l m W' (Nat.le_refl _) hlm hc (by omega) (by omega) (hr.up hu') (hs.up hu') hl hm (ht.up hu')) (Lib.hid fun W' u k => by
    have := limited_any u (dotQ l m) W' k
    simpa only [numX, numY, numE, Bool.true_and, if_true] using this)
end Go.Proofs.YtgcmogldiahdpaaGreatDoor
namespace Go.Proofs.YtgcmogldiahdpaaGreatDoor
open Go.RowKit Fm
theorem rowF_lim {n : Int} {f : List Int × Int} (hv : validF n f = true) : (rowF f).all limI = true := by
  simp only [validF, Bool.and_eq_true] at hv
  simp [rowF, hv.1.2]
  have := hv.2
  rw [List.all_eq_true] at this
  exact this
end Go.Proofs.YtgcmogldiahdpaaGreatDoor

/- Walks of a law. -/
import Derived.Test.YtgcmogldiahdpaaGreatDoorGTxt4
import Derived.Shelf.Strings.SlTrimAscii
namespace Go.Proofs.YtgcmogldiahdpaaGreatDoor
open Go.RowKit Fm

theorem dropWhile_nil {α : Type} (p : α → Bool) (l : List α) : l.dropWhile p = [] ↔ l.all p = true := by
  induction l with
  | nil => simp
  | cons a l ih =>
    rw [List.dropWhile_cons]
    by_cases h : p a = true
    · rw [if_pos h, ih]; simp [h]
    · rw [if_neg h]; simp [h]
theorem trimS_nil (l cs : List UInt8) : Go.Lib.trimS l cs = [] ↔ l.all (cs.contains ·) = true := by
  unfold Go.Lib.trimS Go.Lib.trimLeftS Go.Lib.trimRightS
  rw [dropWhile_nil]
  constructor
  · intro h
    rw [List.all_eq_true] at h ⊢
    intro b hb
    have hsp : l = (l.reverse.dropWhile (cs.contains ·)).reverse ++ (l.reverse.takeWhile (cs.contains ·)).reverse := by
      rw [← List.reverse_append, List.takeWhile_append_dropWhile, List.reverse_reverse]
    rw [hsp, List.mem_append] at hb
    rcases hb with hb | hb
    · exact h b hb
    · rw [List.mem_reverse] at hb
      exact List.all_eq_true.1 (List.all_takeWhile (p := (cs.contains ·)) (l := l.reverse)) b hb
  · intro h
    rw [List.all_eq_true] at h ⊢
    intro b hb
    rw [List.mem_reverse] at hb
    exact h b (List.mem_reverse.1 ((List.dropWhile_sublist _).subset hb))
/-- The ten digits. -/
def ten : List UInt8 := [48, 49, 50, 51, 52, 53, 54, 55, 56, 57]
theorem ten_dig (b : UInt8) : ten.contains b = isDig b := by
  have h : ∀ n : Fin 256, ten.contains (UInt8.ofNat n.val) = decide (48 ≤ n.val ∧ n.val ≤ 57) := by decide +kernel
  have h1 := h ⟨b.toNat, b.toNat_lt⟩
  simp only [UInt8.ofNat_toNat] at h1
  exact h1

set_option maxHeartbeats 2000000 in
set_option maxRecDepth 10000 in
theorem isDigits_any (ds : List UInt8) (w : World) (hl : ds.length ≤ 400) :
    Calls Tryz.prog 62 #[.string ⟨ds.toArray⟩] w fun e w' => e = .returned (.bool (longOk ds)) ∧ Up w w' := by
  by_cases h0 : ds = []
  · subst h0
    go_enter Tryz.func62, Tryz.ntmps62
    go_wp2
    go_ret
    exact ⟨rfl, Up.refl _⟩
  · have HT : Hid (∀ W, Calls Tryz.prog 63 #[.string ⟨ds.toArray⟩, .string ⟨#[48, 49, 50, 51, 52, 53, 54, 55, 56, 57]⟩] W fun e w' => e = .returned (.string ⟨(Go.Lib.trimS ds ten).toArray⟩) ∧ Up W w') :=
      Lib.hid fun W => Any.strings_Trim_laid (P := Tryz.prog) Tryz.lays160 (by kernel_rfl) ⟨ds.toArray⟩ ⟨ten.toArray⟩ W (by show ds.toArray.size ≤ _; simp; omega) (by decide) (ascii_of_all (by decide))
    have HE : Hid ((Go.Lib.trimS ds ten).isEmpty = longOk ds) := Lib.hid (by
      have e : ds.isEmpty = false := by simpa using h0
      have e2 : ds.all (ten.contains ·) = ds.all isDig := by congr 1; funext b; exact ten_dig b
      unfold longOk
      rw [e, Bool.not_false, Bool.true_and, ← e2]
      rcases hb : ds.all (ten.contains ·) with _ | _
      · rw [Bool.eq_false_iff]
        intro h
        rw [List.isEmpty_iff] at h
        rw [(trimS_nil ds ten).1 h] at hb
        cases hb
      · rw [List.isEmpty_iff, trimS_nil]; exact hb)
    generalize Go.Lib.trimS ds ten = ts at *
    go_enter Tryz.func62, Tryz.ntmps62
    go_wp2_with fail
    refine Calls.mono (HT.out _) ?_
    rintro e w1 ⟨rfl, hu⟩
    have HU1 := Lib.hid hu
    clear hu
    go_wp2
    go_ret
    refine ⟨?_, by (repeat (first | exact Below.refl _ _ | exact Go.RowKit.Hid.out (by assumption) | refine Up.trans ?_ (Up.drew _) | refine Up.trans ?_ (Up.drewN _ _) | refine Up.trans ?_ (Up.alloc _ _) | refine Up.trans ?_ (Go.RowKit.Hid.out (by assumption))))⟩
    show Ending.returned (.bool (!ds.isEmpty && ts.isEmpty)) = _
    have e : ds.isEmpty = false := by simpa using h0
    rw [e, ← HE.out]
    rfl
/-! The parts of a number's text. -/
def isNeg : List UInt8 → Bool
  | b :: _ => b == 45
  | [] => false
def unsig (bs : List UInt8) : List UInt8 := if isNeg bs then bs.drop 1 else bs
def notSl (b : UInt8) : Bool := !(b == 47)
def topOf (us : List UInt8) : List UInt8 := us.takeWhile notSl
def hasLow (us : List UInt8) : Bool := !(us.all notSl)
def lowOf (us : List UInt8) : List UInt8 := if hasLow us then (us.dropWhile notSl).drop 1 else [49]
theorem hasPrefix_neg (bs : List UInt8) : Go.Lib.hasPrefix bs [45] = isNeg bs := by
  cases bs with
  | nil => rfl
  | cons b t => simp [Go.Lib.hasPrefix, isNeg, List.isPrefixOf, Bool.beq_comm]
theorem trimPrefix_neg (bs : List UInt8) : Go.Lib.trimPrefix bs [45] = unsig bs := by
  unfold Go.Lib.trimPrefix unsig
  rw [hasPrefix_neg]
  rfl
theorem index_sl (us : List UInt8) : Go.Lib.index us [47] = if hasLow us then ((topOf us).length : Int) else -1 := by
  induction us with
  | nil => rfl
  | cons b t ih =>
    simp only [Go.Lib.index, List.isPrefixOf, Bool.and_true]
    by_cases h : b = 47
    · subst h
      rfl
    · have h1 : ((47 : UInt8) == b) = false := by simpa using fun e => h e.symm
      have h2 : notSl b = true := by unfold notSl; simp [h]
      have e1 : hasLow (b :: t) = hasLow t := by unfold hasLow; simp [h2]
      have e2 : topOf (b :: t) = b :: topOf t := by unfold topOf; rw [List.takeWhile_cons, if_pos h2]
      rw [h1, e1, e2, ih]
      rcases hasLow t with _ | _
      · rfl
      · simp
theorem cut_sl (us : List UInt8) : Go.Lib.cut us [47] = if hasLow us then (topOf us, (us.dropWhile notSl).drop 1, true) else (us, [], false) := by
  unfold Go.Lib.cut
  rw [index_sl]
  have htd : us = topOf us ++ us.dropWhile notSl := (List.takeWhile_append_dropWhile).symm
  rcases hh : hasLow us with _ | _
  · rfl
  · simp only [if_true]
    rw [if_pos (by omega), Int.toNat_natCast]
    generalize topOf us = a at *
    generalize us.dropWhile notSl = r at *
    subst htd
    rw [List.take_left, show a.length + [(47 : UInt8)].length = a.length + 1 from rfl, ← List.drop_drop, List.drop_left]
theorem takeWhile_all {α : Type} (p : α → Bool) (l : List α) (h : l.all p = true) : l.takeWhile p = l := by
  induction l with
  | nil => rfl
  | cons a l ih =>
    simp only [List.all_cons, Bool.and_eq_true] at h
    rw [List.takeWhile_cons, if_pos h.1, ih h.2]
theorem top_all (us : List UInt8) (h : hasLow us = false) : topOf us = us := by
  unfold hasLow at h
  unfold topOf
  simp only [Bool.not_eq_false'] at h
  exact takeWhile_all _ _ h
end Go.Proofs.YtgcmogldiahdpaaGreatDoor

import Derived.Test.YtahmjnjammcifaaDoorNum8
namespace Go.Proofs.YtahmjnjammcifaaDoor
open Go.RowKit Fm

/-- Both integers are ints. -/
def Rng (x y : Int) : Prop := -9223372036854775808 ≤ x ∧ x ≤ 9223372036854775807 ∧ -9223372036854775808 ≤ y ∧ y ≤ 9223372036854775807
/-- What an operation on numbers answers. -/
def Ans (X Y E : Int) (ok : Bool) (q : Rat) : Prop := X = numX ok q ∧ Y = numY ok q ∧ E = numE ok q
theorem Ans.same {X Y E X' Y' E' : Int} {ok ok' : Bool} {q q' : Rat} (h : Ans X Y E ok q) (h' : Ans X' Y' E' ok' q') (ho : ok = ok') (hq : q = q') : X = X' ∧ Y = Y' ∧ E = E' := by
  obtain ⟨rfl, rfl, rfl⟩ := h
  obtain ⟨rfl, rfl, rfl⟩ := h'
  subst ho hq
  exact ⟨rfl, rfl, rfl⟩
theorem Ans.zero {X Y E : Int} {ok : Bool} {q : Rat} (h : Ans X Y E ok q) (h0 : E = 0) : ok = true ∧ okNum X Y = true ∧ ratOf X Y = q ∧ X = q.num ∧ Y = q.den := by
  obtain ⟨rfl, rfl, rfl⟩ := h
  obtain ⟨h1, h2, h3, h4⟩ := num_answer h0
  exact ⟨(numE_zero h0).1, h3, h4, h1, h2⟩
theorem Ans.rng {X Y E : Int} {ok : Bool} {q : Rat} (h : Ans X Y E ok q) : Rng X Y := by
  obtain ⟨rfl, rfl, rfl⟩ := h
  unfold numX numY Rng
  split
  · rename_i hf
    simp only [Bool.and_eq_true] at hf
    have := hf.2
    unfold fits within at this
    simp only [Bool.and_eq_true, decide_eq_true_eq] at this
    omega
  · omega

theorem numAdd_ans (x1 y1 x2 y2 : Int) (w : World) (h1 : Rng x1 y1) (h2 : Rng x2 y2) (ht : Tab w) : ∃ X Y E, Ans X Y E (okNum x1 y1 && okNum x2 y2) (ratOf x1 y1 + ratOf x2 y2) ∧ Rng X Y ∧
    Hid (∀ W, Up w W → Calls Tryd.prog 23 #[.agg #[.int .i64 x1, .int .i64 y1], .agg #[.int .i64 x2, .int .i64 y2]] W fun e w' => e = .returned (.tuple #[.agg #[.int .i64 X, .int .i64 Y], .int .i64 E]) ∧ Up W w') := by
  have ha : Ans _ _ _ (okNum x1 y1 && okNum x2 y2) (ratOf x1 y1 + ratOf x2 y2) := ⟨rfl, rfl, rfl⟩
  exact ⟨_, _, _, ha, ha.rng, Lib.hid (fun W hu => numAdd_any x1 y1 x2 y2 W h1.1 h1.2.1 h1.2.2.1 h1.2.2.2 h2.1 h2.2.1 h2.2.2.1 h2.2.2.2 (ht.up hu))⟩
theorem numSub_ans (x1 y1 x2 y2 : Int) (w : World) (h1 : Rng x1 y1) (h2 : Rng x2 y2) (ht : Tab w) : ∃ X Y E, Ans X Y E (okNum x1 y1 && okNum x2 y2) (ratOf x1 y1 - ratOf x2 y2) ∧ Rng X Y ∧
    Hid (∀ W, Up w W → Calls Tryd.prog 25 #[.agg #[.int .i64 x1, .int .i64 y1], .agg #[.int .i64 x2, .int .i64 y2]] W fun e w' => e = .returned (.tuple #[.agg #[.int .i64 X, .int .i64 Y], .int .i64 E]) ∧ Up W w') := by
  have ha : Ans _ _ _ (okNum x1 y1 && okNum x2 y2) (ratOf x1 y1 - ratOf x2 y2) := ⟨rfl, rfl, rfl⟩
  exact ⟨_, _, _, ha, ha.rng, Lib.hid (fun W hu => numSub_any x1 y1 x2 y2 W h1.1 h1.2.1 h1.2.2.1 h1.2.2.2 h2.1 h2.2.1 h2.2.2.1 h2.2.2.2 (ht.up hu))⟩
theorem numMul_ans (x1 y1 x2 y2 : Int) (w : World) (h1 : Rng x1 y1) (h2 : Rng x2 y2) (ht : Tab w) : ∃ X Y E, Ans X Y E (okNum x1 y1 && okNum x2 y2) (ratOf x1 y1 * ratOf x2 y2) ∧ Rng X Y ∧
    Hid (∀ W, Up w W → Calls Tryd.prog 24 #[.agg #[.int .i64 x1, .int .i64 y1], .agg #[.int .i64 x2, .int .i64 y2]] W fun e w' => e = .returned (.tuple #[.agg #[.int .i64 X, .int .i64 Y], .int .i64 E]) ∧ Up W w') := by
  have ha : Ans _ _ _ (okNum x1 y1 && okNum x2 y2) (ratOf x1 y1 * ratOf x2 y2) := ⟨rfl, rfl, rfl⟩
  exact ⟨_, _, _, ha, ha.rng, Lib.hid (fun W hu => numMul_any x1 y1 x2 y2 W h1.1 h1.2.1 h1.2.2.1 h1.2.2.2 h2.1 h2.2.1 h2.2.2.1 h2.2.2.2 (ht.up hu))⟩
theorem numDiv_ans (x1 y1 x2 y2 : Int) (w : World) (h1 : Rng x1 y1) (h2 : Rng x2 y2) (ht : Tab w) : ∃ X Y E, (E = 0 → Ans X Y E (okNum x1 y1 && okNum x2 y2) (ratOf x1 y1 / ratOf x2 y2) ∧ x2 ≠ 0) ∧ Rng X Y ∧
    Hid (∀ W, Up w W → Calls Tryd.prog 26 #[.agg #[.int .i64 x1, .int .i64 y1], .agg #[.int .i64 x2, .int .i64 y2]] W fun e w' => e = .returned (.tuple #[.agg #[.int .i64 X, .int .i64 Y], .int .i64 E]) ∧ Up W w') := by
  have hc := fun W (hu : Up w W) => numDiv_any x1 y1 x2 y2 W h1.1 h1.2.1 h1.2.2.1 h1.2.2.2 h2.1 h2.2.1 h2.2.2.1 h2.2.2.2 (ht.up hu)
  rcases hd : divNone x1 y1 x2 y2 with _ | _
  · rw [hd] at hc
    have ha : Ans _ _ _ (okNum x1 y1 && okNum x2 y2) (ratOf x1 y1 / ratOf x2 y2) := ⟨rfl, rfl, rfl⟩
    refine ⟨_, _, _, fun h0 => ⟨ha, ?_⟩, ha.rng, Lib.hid (fun W hu => hc W hu)⟩
    have := (ha.zero h0).1
    unfold divNone at hd
    rw [this] at hd
    intro h
    rw [h] at hd
    simp at hd
  · rw [hd] at hc
    exact ⟨0, 0, 5, fun h0 => absurd h0 (by decide), ⟨by decide, by decide, by decide, by decide⟩, Lib.hid (fun W hu => hc W hu)⟩

theorem eq_or {x : Int} {p : Prop} (h : x = 0 → p) : (x == 0) = false ∨ (x = 0 ∧ p) := by
  by_cases h0 : x = 0
  · exact .inr ⟨h0, h h0⟩
  · exact .inl (by simp [h0])
theorem ans_pair {X Y E X' Y' E' : Int} {ok ok' : Bool} {q q' : Rat} (h : Ans X Y E ok q) (h' : Ans X' Y' E' ok' q') (h0 : E = 0) (h0' : E' = 0) (hq : q = q') : X = X' ∧ Y = Y' := by
  obtain ⟨-, -, -, h3, h4⟩ := h.zero h0
  obtain ⟨-, -, -, h5, h6⟩ := h'.zero h0'
  rw [h3, h4, h5, h6, hq]
  exact ⟨rfl, rfl⟩
theorem ans_back {X Y E a1 a2 : Int} {ok : Bool} {q : Rat} (h : Ans X Y E ok q) (h0 : E = 0) (ha : okNum a1 a2 = true) (hq : q = ratOf a1 a2) : X = a1 ∧ Y = a2 := by
  obtain ⟨-, -, -, h3, h4⟩ := h.zero h0
  obtain ⟨h5, h6⟩ := ratOf_ok ha
  rw [h3, h4, hq, h5, h6]
  exact ⟨rfl, rfl⟩
theorem rat_mul_div {a b : Rat} (h : b ≠ 0) : a * b / b = a := by
  rw [Rat.div_def, Rat.mul_assoc, Rat.mul_inv_cancel _ h, Rat.mul_one]
theorem rat_add_sub (a b : Rat) : a + b - b = a := by
  rw [Rat.sub_eq_add_neg, Rat.add_assoc, Rat.add_neg_cancel, Rat.add_zero]
end Go.Proofs.YtahmjnjammcifaaDoor

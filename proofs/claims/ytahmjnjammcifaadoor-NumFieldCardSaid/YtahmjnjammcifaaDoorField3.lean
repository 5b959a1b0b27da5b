import Derived.Test.YtahmjnjammcifaaDoorField2
namespace Go.Proofs.YtahmjnjammcifaaDoor
open Go.RowKit Fm

set_option maxRecDepth 10000 in
theorem numField_any (a1 a2 b1 b2 c1 c2 : Int) (w : World) (ha : Rng a1 a2) (hb : Rng b1 b2) (hc : Rng c1 c2) (ht : Tab w) :
    Calls Tryd.prog 7 #[.agg #[.int .i64 a1, .int .i64 a2], .agg #[.int .i64 b1, .int .i64 b2], .agg #[.int .i64 c1, .int .i64 c2]] w fun e w' => e = .returned (.bool true) ∧ Up w w' := by
  obtain ⟨P, Q, E, hP, rP, HA1⟩ := numAdd_ans a1 a2 b1 b2 w ha hb ht
  obtain ⟨P', Q', E', hP', rP', HA2⟩ := numAdd_ans b1 b2 a1 a2 w hb ha ht
  obtain ⟨rfl, rfl, rfl⟩ := hP'.same hP (Bool.and_comm _ _) (Rat.add_comm _ _)
  obtain ⟨R, S, G, hR, rR, HM1⟩ := numMul_ans a1 a2 b1 b2 w ha hb ht
  obtain ⟨R', S', G', hR', rR', HM2⟩ := numMul_ans b1 b2 a1 a2 w hb ha ht
  obtain ⟨rfl, rfl, rfl⟩ := hR'.same hR (Bool.and_comm _ _) (Rat.mul_comm _ _)
  obtain ⟨X0, Y0, I0, h0, r0, HS⟩ := numSub_ans _ _ b1 b2 w rP hb ht
  obtain ⟨X1, Y1, I1, h1, r1, HB1⟩ := numAdd_ans _ _ c1 c2 w rP hc ht
  obtain ⟨X2, Y2, I2, h2, r2, HB2⟩ := numAdd_ans b1 b2 c1 c2 w hb hc ht
  obtain ⟨X3, Y3, I3, h3, r3, HB3⟩ := numAdd_ans a1 a2 X2 Y2 w ha r2 ht
  obtain ⟨X4, Y4, I4, h4, r4, HC1⟩ := numMul_ans _ _ c1 c2 w rP hc ht
  obtain ⟨X5, Y5, I5, h5, r5, HC2⟩ := numMul_ans a1 a2 c1 c2 w ha hc ht
  obtain ⟨X6, Y6, I6, h6, r6, HC3⟩ := numMul_ans b1 b2 c1 c2 w hb hc ht
  obtain ⟨X7, Y7, I7, h7, r7, HC4⟩ := numAdd_ans X5 Y5 X6 Y6 w r5 r6 ht
  obtain ⟨X8, Y8, I8, h8, r8, HD⟩ := numDiv_ans _ _ b1 b2 w rR hb ht
  obtain ⟨X9, Y9, I9, h9, r9, HE1⟩ := numMul_ans _ _ c1 c2 w rR hc ht
  obtain ⟨XB, YB, IB, hB, rB, HE3⟩ := numMul_ans a1 a2 X6 Y6 w ha r6 ht
  have HW := Lib.hid (fun W (hu : Up w W) => awake_any W (ht.up hu))
  refine field_walk a1 a2 b1 b2 c1 c2 _ _ _ _ _ _ X0 Y0 I0 X1 Y1 I1 X2 Y2 I2 X3 Y3 I3 X4 Y4 I4 X5 Y5 I5 X6 Y6 I6 X7 Y7 I7 X8 Y8 I8 X9 Y9 I9 XB YB IB w HA1 HA2 HM1 HM2 HS HB1 HB2 HB3 HC1 HC2 HC3 HC4 HD HE1 HE3 HW ?_ ?_ ?_ ?_ ?_
  · intro hE
    obtain ⟨ok, -, e1, -, -⟩ := hP.zero hE
    simp only [Bool.and_eq_true] at ok
    exact eq_or (fun hi => ans_back h0 hi ok.1 (by rw [e1, rat_add_sub]))
  · intro hE
    obtain ⟨ok, -, e1, -, -⟩ := hP.zero hE
    refine eq_or (fun hi1 => eq_or (fun hi2 => eq_or (fun hi3 => ?_)))
    obtain ⟨-, -, e2, -, -⟩ := h2.zero hi2
    exact ans_pair h1 h3 hi1 hi3 (by rw [e1, e2, Rat.add_assoc])
  · intro hE
    obtain ⟨ok, -, e1, -, -⟩ := hP.zero hE
    refine eq_or (fun hi4 => eq_or (fun hi5 => eq_or (fun hi6 => eq_or (fun hi7 => ?_))))
    obtain ⟨-, -, e5, -, -⟩ := h5.zero hi5
    obtain ⟨-, -, e6, -, -⟩ := h6.zero hi6
    exact ans_pair h4 h7 hi4 hi7 (by rw [e1, e5, e6, Rat.add_mul])
  · intro hG
    obtain ⟨ok, -, e1, -, -⟩ := hR.zero hG
    simp only [Bool.and_eq_true] at ok
    refine eq_or (fun hi => ?_)
    obtain ⟨h8', hb0⟩ := h8 hi
    have hbz : ratOf b1 b2 ≠ 0 := fun h => hb0 (by have h5 := (ratOf_ok ok.2).1; rw [h] at h5; exact h5.symm)
    exact ans_back h8' hi ok.1 (by rw [e1, rat_mul_div hbz])
  · intro hG
    obtain ⟨ok, -, e1, -, -⟩ := hR.zero hG
    refine eq_or (fun hi9 => eq_or (fun hi6 => eq_or (fun hiB => ?_)))
    obtain ⟨-, -, e6, -, -⟩ := h6.zero hi6
    exact ans_pair h9 hB hi9 hiB (by rw [e1, e6, Rat.mul_assoc])
end Go.Proofs.YtahmjnjammcifaaDoor

/- More plain facts on digits: the estimate of a quotient's digit. -/
import Derived.Test.YtahmjnjammcifaaDoorMath
namespace Go.Proofs.YtahmjnjammcifaaDoor.Fm
/-- What the estimate of a digit is good for: T is the top of the dividend, D that of the divisor. -/
def EstOk (B T D f : Nat) : Prop := f < B ∧ f * D ≤ T ∧ ∀ q, q < B → q * D ≤ T → q ≤ f
/-- The state of the loop that makes the estimate. -/
def EstRel (B top v1 v2 d f r : Nat) : Prop :=
  f * v1 + r = top ∧ r < B ∧ f ≤ B + 1 ∧ ∀ q, q < B → q * (v1 * B + v2) ≤ top * B + d → q ≤ f
theorem est_q {B top v1 v2 d q : Nat} (hd : d < B) (h : q * (v1 * B + v2) ≤ top * B + d) : q * v1 ≤ top := by
  have h1 : q * (v1 * B + v2) = (q * v1) * B + q * v2 := by rw [Nat.mul_add, Nat.mul_assoc]
  have h2 : (q * v1) * B < (top + 1) * B := by rw [Nat.add_mul, Nat.one_mul]; omega
  have := Nat.lt_of_mul_lt_mul_right h2
  omega
theorem EstRel.start {B top v1 v2 d : Nat} (h1 : B ≤ 2 * v1) (hb : v1 < B) (hd : d < B) (ht : top < (v1 + 1) * B) : EstRel B top v1 v2 d (top / v1) (top % v1) := by
  have hm := Nat.mod_lt top (show 0 < v1 by omega)
  refine ⟨Nat.div_add_mod' top v1, by omega, ?_, fun q _ hq => ?_⟩
  · have : top / v1 < B + 2 := by
      apply Nat.div_lt_of_lt_mul
      rw [Nat.mul_add]
      rw [Nat.add_mul, Nat.one_mul] at ht
      omega
    omega
  · rw [Nat.le_div_iff_mul_le (by omega)]
    exact est_q hd hq
theorem EstRel.big {B top v1 v2 d f r : Nat} (h : EstRel B top v1 v2 d f r) (hb : v1 < B) (h1 : B ≤ 2 * v1) (ht : top < (v1 + 1) * B) (hf : B ≤ f) :
    (r + v1 < B → EstRel B top v1 v2 d (f - 1) (r + v1)) ∧ (B ≤ r + v1 → f - 1 < B) ∧ f - 1 + 1 = f := by
  obtain ⟨g1, g2, g3, g4⟩ := h
  obtain ⟨e, rfl⟩ : ∃ e, f = e + 1 := ⟨f - 1, by omega⟩
  rw [Nat.add_mul, Nat.one_mul] at g1 ht
  simp only [Nat.add_sub_cancel]
  refine ⟨fun h => ⟨by omega, h, by omega, fun q hq hqq => ?_⟩, fun h => ?_, trivial⟩
  · have := g4 q hq hqq; omega
  · rcases Nat.lt_or_ge e B with he | he
    · exact he
    · exfalso
      have : B * v1 ≤ e * v1 := Nat.mul_le_mul_right v1 he
      rw [Nat.mul_comm v1 B] at ht
      omega
theorem EstRel.small {B top v1 v2 d f r : Nat} (h : EstRel B top v1 v2 d f r) (hv : r * B + d < f * v2) :
    (r + v1 < B → EstRel B top v1 v2 d (f - 1) (r + v1)) ∧ 0 < f ∧ ∀ q, q < B → q * (v1 * B + v2) ≤ top * B + d → q ≤ f - 1 := by
  obtain ⟨g1, g2, g3, g4⟩ := h
  have hf : 0 < f := by
    rcases Nat.eq_zero_or_pos f with h | h
    · subst h; rw [Nat.zero_mul] at hv; omega
    · exact h
  have hlow : ∀ q, q < B → q * (v1 * B + v2) ≤ top * B + d → q ≤ f - 1 := fun q hq hqq => by
    have h1 := g4 q hq hqq
    rcases Nat.lt_or_ge q f with h | h
    · omega
    · obtain rfl : q = f := by omega
      exfalso
      have h2 : q * (v1 * B + v2) = (q * v1) * B + q * v2 := by rw [Nat.mul_add, Nat.mul_assoc]
      have h3 : (q * v1 + r) * B = (q * v1) * B + r * B := Nat.add_mul _ _ _
      rw [g1] at h3
      omega
  refine ⟨fun h => ⟨?_, h, by omega, hlow⟩, hf, hlow⟩
  obtain ⟨e, rfl⟩ : ∃ e, f = e + 1 := ⟨f - 1, by omega⟩
  rw [Nat.add_mul, Nat.one_mul] at g1
  simp only [Nat.add_sub_cancel]; omega
/-- The loop ends with an estimate that is good. -/
theorem EstRel.done {B top v1 v2 d f r : Nat} (h : EstRel B top v1 v2 d f r) (hf : f < B) (hv : f * v2 ≤ r * B + d) : EstOk B (top * B + d) (v1 * B + v2) f := by
  obtain ⟨g1, g2, g3, g4⟩ := h
  refine ⟨hf, ?_, g4⟩
  have h2 : f * (v1 * B + v2) = (f * v1) * B + f * v2 := by rw [Nat.mul_add, Nat.mul_assoc]
  have h3 : (f * v1 + r) * B = (f * v1) * B + r * B := Nat.add_mul _ _ _
  rw [g1] at h3
  omega
theorem est_leave {B top v1 v2 d f r : Nat} (h1 : f * v1 + r = top) (hr : B ≤ r) (hf : f < B) (hv2 : v2 < B) (h4 : ∀ q, q < B → q * (v1 * B + v2) ≤ top * B + d → q ≤ f) : EstOk B (top * B + d) (v1 * B + v2) f := by
  refine ⟨hf, ?_, h4⟩
  have h2 : f * (v1 * B + v2) = (f * v1) * B + f * v2 := by rw [Nat.mul_add, Nat.mul_assoc]
  have h3 : (f * v1 + r) * B = (f * v1) * B + r * B := Nat.add_mul _ _ _
  rw [h1] at h3
  have h5 : f * v2 ≤ r * B := Nat.mul_le_mul (by omega) (by omega)
  omega
theorem EstRel.next_eq {B top v1 v2 d f r : Nat} (h : EstRel B top v1 v2 d f r) (hf : 0 < f) : (f - 1) * v1 + (r + v1) = top := by
  obtain ⟨g1, _⟩ := h
  obtain ⟨e, rfl⟩ : ∃ e, f = e + 1 := ⟨f - 1, by omega⟩
  rw [Nat.add_mul, Nat.one_mul] at g1
  simp only [Nat.add_sub_cancel]; omega

/-- The estimate is the digit or one more. -/
theorem est_digit {B U V T D X u v q r f : Nat} (hV : V = D * X + v) (hv : v < X) (hU : U = T * X + u) (hu : u < X) (hq : U = q * V + r) (hr : r < V) (hqB : q < B) (hBX : B * X ≤ V) (h : EstOk B T D f) : q ≤ f ∧ f ≤ q + 1 := by
  obtain ⟨h1, h2, h3⟩ := h
  have hX : 0 < X := by omega
  constructor
  · refine h3 q hqB ?_
    have h4 : (q * D) * X < (T + 1) * X := by
      have e1 : q * V = (q * D) * X + q * v := by rw [hV, Nat.mul_add, Nat.mul_assoc]
      rw [Nat.add_mul, Nat.one_mul]
      omega
    have := Nat.lt_of_mul_lt_mul_right h4
    omega
  · rcases Nat.lt_or_ge (q + 1) f with h | h
    · exfalso
      have e1 : f * V = (f * D) * X + f * v := by rw [hV, Nat.mul_add, Nat.mul_assoc]
      have e2 : (f * D) * X ≤ T * X := Nat.mul_le_mul_right X h2
      have e3 : f * v ≤ B * X := Nat.mul_le_mul (by omega) (by omega)
      have e4 : (q + 2) * V ≤ f * V := Nat.mul_le_mul_right V h
      have e5 : (q + 2) * V = q * V + V + V := by rw [Nat.add_mul]; omega
      omega
    · exact h
/-- One step of the subtraction of a multiple. -/
theorem redStep {B P z x f c b t d b' S S' F : Nat} (hS : S + f * F = S' + P * (c + b)) (ht : t = x * f + c) (hd : z + B * b' = d + t % B + b) :
    (S + P * d) + f * (F + P * x) = (S' + P * z) + (P * B) * (t / B + b') := by
  have h1 := Nat.mod_add_div t B
  have h2 : P * (z + B * b') = P * (d + t % B + b) := by rw [hd]
  have h3 : P * t = P * (t % B) + P * (B * (t / B)) := by rw [← Nat.mul_add, h1]
  have h4 : P * t = P * (x * f) + P * c := by rw [ht, Nat.mul_add]
  generalize t % B = r at *
  generalize t / B = g at *
  grind
theorem red_small {U V f q r Z : Nat} (hz : Z + f * V = U) (hq : U = q * V + r) (hr : r < V) (hf : q ≤ f) : f = q ∧ Z = r := by
  have : f = q := by
    rcases Nat.lt_or_ge q f with h | h
    · exfalso
      have : (q + 1) * V ≤ f * V := Nat.mul_le_mul_right V h
      rw [Nat.add_mul, Nat.one_mul] at this
      omega
    · omega
  subst this
  exact ⟨rfl, by omega⟩
theorem red_big {M U V f q r Z : Nat} (hz : Z + f * V = U + M) (hZ : Z < M) (hq : U = q * V + r) (hf : f ≤ q + 1) (hqf : q ≤ f) : f = q + 1 ∧ Z + V = r + M := by
  have : f = q + 1 := by
    rcases Nat.lt_or_ge q f with h | h
    · omega
    · exfalso
      obtain rfl : f = q := by omega
      omega
  subst this
  rw [Nat.add_mul, Nat.one_mul] at hz
  exact ⟨rfl, by omega⟩
theorem val_top3 (B : Nat) {l : List Nat} {off k : Nat} (h : off + (k + 3) ≤ l.length) :
    val B (seg l off (k + 3)) = ((l[off + (k + 2)] * B + l[off + (k + 1)]) * B + l[off + k]) * B ^ k + val B (seg l off k) := by
  rw [val_seg_succ B (show off + (k + 2) < l.length by omega), val_seg_succ B (show off + (k + 1) < l.length by omega), val_seg_succ B (show off + k < l.length by omega), show B ^ (k + 2) = B ^ k * B * B by rw [Nat.pow_succ, Nat.pow_succ], show B ^ (k + 1) = B ^ k * B from Nat.pow_succ _ _]
  generalize val B (seg l off k) = L
  generalize B ^ k = X
  generalize l[off + (k + 2)] = a
  generalize l[off + (k + 1)] = b
  generalize l[off + k] = c
  grind
theorem val_top2 (B : Nat) {l : List Nat} {k : Nat} (h : l.length = k + 2) :
    val B l = (l[k + 1] * B + l[k]) * B ^ k + val B (l.take k) := by
  have h1 := val_take_succ B (l := l) (k := k + 1) (by omega)
  have h2 := val_take_succ B (l := l) (k := k) (by omega)
  rw [List.take_of_length_le (by omega)] at h1
  rw [h1, h2, show B ^ (k + 1) = B ^ k * B from Nat.pow_succ _ _]
  generalize val B (l.take k) = L
  generalize B ^ k = X
  generalize l[k + 1] = a
  generalize l[k] = c
  grind
theorem top_le {B X a b c U V L v1 v2 l : Nat} (hU : U = ((a * B + b) * B + c) * X + L) (hV : V = (v1 * B + v2) * X + l) (hl : l < X) (hv2 : v2 < B) (h : U < V * B) : a ≤ v1 := by
  rcases Nat.lt_or_ge v1 a with h1 | h1
  · exfalso
    have e1 : V + X ≤ (v1 + 1) * B * X + X := by
      have : (v1 * B + v2) * X + X ≤ (v1 + 1) * B * X := by
        have h2 : v1 * B + v2 + 1 ≤ (v1 + 1) * B := by rw [Nat.add_mul, Nat.one_mul]; omega
        have := Nat.mul_le_mul_right X h2
        rw [Nat.add_mul (v1 * B + v2) 1, Nat.one_mul] at this
        exact this
      omega
    have e2 : V < (v1 + 1) * B * X := by
      have h2 : v1 * B + v2 + 1 ≤ (v1 + 1) * B := by rw [Nat.add_mul, Nat.one_mul]; omega
      have := Nat.mul_le_mul_right X h2
      rw [Nat.add_mul (v1 * B + v2) 1, Nat.one_mul] at this
      omega
    have e3 : V * B ≤ (v1 + 1) * B * X * B := Nat.mul_le_mul_right B (Nat.le_of_lt e2)
    have e4 : (v1 + 1) * B * X * B ≤ a * B * X * B := Nat.mul_le_mul_right B (Nat.mul_le_mul_right X (Nat.mul_le_mul_right B h1))
    have e5 : a * B * X * B ≤ U := by
      rw [hU]
      have : a * B * X * B = (a * B) * B * X := by rw [Nat.mul_assoc (a * B) X B, Nat.mul_comm X B, ← Nat.mul_assoc]
      rw [this]
      have := Nat.mul_le_mul_right X (show (a * B) * B ≤ (a * B + b) * B + c by rw [Nat.add_mul]; omega)
      omega
    omega
  · exact h1
theorem red_last {B P z cy bo d b' S S' F U : Nat} (hS : S + F = S' + P * (cy + bo)) (hU : U = S' + P * z) (hd : z + B * b' = d + cy + bo) : (S + P * d) + F = U + (P * B) * b' := by
  have h2 : P * (z + B * b') = P * (d + cy + bo) := by rw [hd]
  grind
/-- Adding the divisor back behind a subtraction that went one too far. -/
theorem red_back {B P L L' V d carry r : Nat} (hL : L' + P * carry = L + V) (hZ : (L + P * d) + V = r + P * B) (hd : d < B) (hL' : L' < P) (hc : carry ≤ 1) : L' + P * ((d + carry) % B) = r := by
  -- (L + P d) + V = L' + P (d + carry) = r + P B, and r < P
  have h1 : L' + P * (d + carry) = r + P * B := by rw [Nat.mul_add]; omega
  have h2 : d + carry = B := by
    rcases Nat.lt_or_ge (d + carry) B with h | h
    · exfalso
      have : P * (d + carry) + P ≤ P * B := by
        have := Nat.mul_le_mul_left P (show d + carry + 1 ≤ B from h)
        rw [Nat.mul_add P (d + carry) 1, Nat.mul_one] at this; exact this
      omega
    · omega
  rw [h2, Nat.mod_self, Nat.mul_zero]
  rw [h2] at h1
  omega
end Go.Proofs.YtahmjnjammcifaaDoor.Fm

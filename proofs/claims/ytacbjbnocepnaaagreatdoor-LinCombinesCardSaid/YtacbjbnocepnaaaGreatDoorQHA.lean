/- Plain facts about rows of integers and their elimination, and the first contracts of the rows. -/
import Derived.Test.YtacbjbnocepnaaaGreatDoorQGH
namespace Go.Proofs.YtacbjbnocepnaaaGreatDoor
open Fm
def gcdR : Nat → List Int → Nat
  | g, [] => g
  | g, x :: r => gcdR (Nat.gcd g x.natAbs) r
def primR (r : List Int) : List Int := if gcdR 0 r = 0 then r else r.map fun x => x.tdiv (gcdR 0 r : Nat)
def timesR (x : Int) (r : List Int) : List Int := r.map (· * x)
def plusR (r s : List Int) : List Int := List.zipWith (· + ·) r s
def negR (r : List Int) : List Int := r.map (- ·)
def overR (d : Int) (r : List Int) : List Int := r.map (·.tdiv d)
def cancelR (r p : List Int) (c : Nat) : List Int :=
  primR (plusR (timesR ((p.getD c 0).tdiv (Int.gcd (r.getD c 0) (p.getD c 0))) r) (timesR (-((r.getD c 0).tdiv (Int.gcd (r.getD c 0) (p.getD c 0)))) p))
abbrev Sys := List (Option (List Int))
def insR (n : Nat) : Nat → Sys → List Int → Sys
  | 0, S, _ => S
  | k + 1, S, r => if r.getD (n - k) 0 = 0 then insR n k S r else
    match S.getD (n - k) none with
    | none => S.set (n - k) (some r)
    | some p => insR n k S (cancelR r p (n - k))
def colR (p : List Int) (c : Nat) : Nat → Sys → Sys
  | 0, S => S
  | d + 1, S => match (colR p c d S).getD d none with
    | none => colR p c d S
    | some r => (colR p c d S).set d (some (cancelR r p c))
def posR (c : Nat) (q : List Int) : List Int := if q.getD c 0 < 0 then negR q else q
def redR : Nat → Sys → Sys
  | 0, S => S
  | c + 1, S => match S.getD c none with
    | none => redR c S
    | some p => redR c ((colR p c c S).set c (some (posR c (primR p))))
def sysR (n : Nat) (l : List (List Int)) : Sys := redR (n + 1) (l.foldl (fun S r => insR n (n + 1) S r) (List.replicate 10 none))
def leadR (n : Nat) (S : Sys) : List Nat := (List.range n).filter fun c => (S.getD c none).isSome
def rowsR (n : Nat) (S : Sys) : List (List Int) := (leadR n S).map fun c => (S.getD c none).getD []
theorem gcdR_dvd_left (r : List Int) : ∀ g, gcdR g r ∣ g := by
  induction r with
  | nil => intro g; exact Nat.dvd_refl _
  | cons x r ih => intro g; exact Nat.dvd_trans (ih _) (Nat.gcd_dvd_left _ _)
theorem gcdR_dvd (r : List Int) : ∀ g x, x ∈ r → (gcdR g r : Int) ∣ x := by
  induction r with
  | nil => intro g x h; cases h
  | cons y r ih =>
    intro g x h
    rcases List.mem_cons.1 h with rfl | h
    · exact Int.ofNat_dvd_left.2 (Nat.dvd_trans (gcdR_dvd_left r _) (Nat.gcd_dvd_right _ _))
    · exact ih _ x h
theorem gcdR_take (r : List Int) : ∀ g k (hk : k < r.length), gcdR g (r.take (k + 1)) = Nat.gcd (gcdR g (r.take k)) (r[k]).natAbs := by
  induction r with
  | nil => intro g k hk; simp at hk
  | cons y r ih =>
    intro g k hk
    cases k with
    | zero => simp [gcdR]
    | succ k => simp only [List.take_succ_cons, gcdR, List.getElem_cons_succ]; exact ih _ k (by simpa using hk)
theorem primR_length (r : List Int) : (primR r).length = r.length := by unfold primR; split <;> simp
theorem getD_map0 (f : Int → Int) (h0 : f 0 = 0) (r : List Int) (i : Nat) : (r.map f).getD i 0 = f (r.getD i 0) := by
  simp only [List.getD_eq_getElem?_getD, List.getElem?_map]
  cases r[i]? <;> simp [h0]
theorem tdiv_zero_iff {x g : Int} (h : g ∣ x) : x.tdiv g = 0 ↔ x = 0 := by
  constructor
  · intro e
    have := Int.tdiv_mul_cancel h
    rw [e] at this; omega
  · intro e; subst e; simp
theorem getD_mem0 (r : List Int) (i : Nat) : r.getD i 0 = 0 ∨ r.getD i 0 ∈ r := by
  rw [List.getD_eq_getElem?_getD]
  cases h : r[i]? with
  | none => left; rfl
  | some x => right; exact List.mem_of_getElem? h
theorem primR_zero (r : List Int) (i : Nat) : (primR r).getD i 0 = 0 ↔ r.getD i 0 = 0 := by
  unfold primR
  split
  · exact Iff.rfl
  · rename_i h
    rw [getD_map0 _ (by simp)]
    rcases getD_mem0 r i with e | e
    · rw [e]; simp
    · exact tdiv_zero_iff (gcdR_dvd r 0 _ e)
theorem getD_zip (r s : List Int) (h : r.length = s.length) (i : Nat) : (plusR r s).getD i 0 = r.getD i 0 + s.getD i 0 := by
  unfold plusR
  simp only [List.getD_eq_getElem?_getD, List.getElem?_zipWith]
  rcases Nat.lt_or_ge i r.length with hi | hi
  · rw [List.getElem?_eq_getElem hi, List.getElem?_eq_getElem (h ▸ hi)]; rfl
  · rw [List.getElem?_eq_none hi, List.getElem?_eq_none (h ▸ hi)]; rfl
def mixR (r p : List Int) (c i : Nat) : Int := r.getD i 0 * (p.getD c 0).tdiv (Int.gcd (r.getD c 0) (p.getD c 0)) + p.getD i 0 * -((r.getD c 0).tdiv (Int.gcd (r.getD c 0) (p.getD c 0)))
theorem cancelR_length (r p : List Int) (c : Nat) (h : r.length = p.length) : (cancelR r p c).length = r.length := by
  unfold cancelR plusR timesR; rw [primR_length]; simp [h]
theorem cancelR_zero (r p : List Int) (c i : Nat) (h : r.length = p.length) : (cancelR r p c).getD i 0 = 0 ↔ mixR r p c i = 0 := by
  unfold cancelR
  rw [primR_zero, getD_zip _ _ (by simp [timesR, h])]
  unfold timesR mixR
  rw [getD_map0 _ (by simp), getD_map0 _ (by simp)]
theorem mixR_self (r p : List Int) (c : Nat) (hp : p.getD c 0 ≠ 0) : mixR r p c c = 0 := by
  unfold mixR
  generalize r.getD c 0 = a at *
  generalize p.getD c 0 = b at *
  have hg : ((Int.gcd a b : Nat) : Int) ≠ 0 := by
    intro e; have : Int.gcd a b = 0 := by omega
    exact hp (Int.gcd_eq_zero_iff.1 this).2
  have h1 := Int.tdiv_mul_cancel (Int.gcd_dvd_left a b)
  have h2 := Int.tdiv_mul_cancel (Int.gcd_dvd_right a b)
  generalize hx : a.tdiv (Int.gcd a b) = x at *
  generalize hy : b.tdiv (Int.gcd a b) = y at *
  generalize ((Int.gcd a b : Nat) : Int) = g at *
  have e : a * y = b * x := by rw [← h1, ← h2, Int.mul_assoc, Int.mul_assoc, Int.mul_comm g y, Int.mul_comm g x, ← Int.mul_assoc, ← Int.mul_assoc, Int.mul_comm x y]
  rw [Int.mul_neg, e]; omega
structure LeadAt (n c : Nat) (r : List Int) : Prop where
  len : r.length = n + 1
  le : c ≤ n
  at_ : r.getD c 0 ≠ 0
  before : ∀ i, i < c → r.getD i 0 = 0
def Ech (n : Nat) (S : Sys) : Prop := S.length = 10 ∧ ∀ c r, S.getD c none = some r → LeadAt n c r
theorem getD_set (S : Sys) (c d : Nat) (o : Option (List Int)) (hc : c < S.length) : (S.set c o).getD d none = if c = d then o else S.getD d none := by
  simp only [List.getD_eq_getElem?_getD, List.getElem?_set]
  split
  · simp
  · rfl
theorem Ech.set {n : Nat} {S : Sys} (h : Ech n S) {c : Nat} {r : List Int} (hc : LeadAt n c r) (hn : n ≤ 9) : Ech n (S.set c (some r)) := by
  refine ⟨by simp [h.1], fun d q hd => ?_⟩
  have := hc.le
  rw [getD_set S c d _ (by rw [h.1]; omega)] at hd
  split at hd
  · rename_i e; subst e; cases hd; exact hc
  · exact h.2 d q hd
theorem cancel_before {r p : List Int} {c i : Nat} (h : r.length = p.length) (hr : r.getD i 0 = 0) (hp : p.getD i 0 = 0) : (cancelR r p c).getD i 0 = 0 := by
  rw [cancelR_zero r p c i h]; unfold mixR; rw [hr, hp]; simp
def Zeros (c : Nat) (r : List Int) : Prop := ∀ i, i < c → r.getD i 0 = 0
theorem cancel_next {n c : Nat} {r p : List Int} (hl : r.length = n + 1) (hz : Zeros c r) (hp : LeadAt n c p) : (cancelR r p c).length = n + 1 ∧ Zeros (c + 1) (cancelR r p c) := by
  have e : r.length = p.length := by rw [hl, hp.len]
  refine ⟨by rw [cancelR_length _ _ _ e, hl], fun i hi => ?_⟩
  rcases Nat.lt_or_ge i c with h | h
  · exact cancel_before e (hz i h) (hp.before i h)
  · have : i = c := by omega
    subst this
    exact (cancelR_zero r p i i e).2 (mixR_self r p i hp.at_)
theorem insR_ech (n : Nat) (hn : n ≤ 9) : ∀ k S r, k ≤ n + 1 → Ech n S → r.length = n + 1 → Zeros (n + 1 - k) r → Ech n (insR n k S r) := by
  intro k
  induction k with
  | zero => intro S r _ h _ _; exact h
  | succ k ih =>
    intro S r hk h hl hz
    have e : n + 1 - (k + 1) = n - k := by omega
    have e2 : n + 1 - k = n - k + 1 := by omega
    rw [e] at hz
    unfold insR
    split
    · rename_i h0
      refine ih S r (by omega) h hl fun i hi => ?_
      rcases Nat.lt_or_ge i (n - k) with hh | hh
      · exact hz i hh
      · have : i = n - k := by omega
        rw [this]; exact h0
    · rename_i h0
      split
      · exact h.set ⟨hl, by omega, h0, hz⟩ hn
      · rename_i p hp
        obtain ⟨a, b⟩ := cancel_next hl hz (h.2 _ p hp)
        exact ih S _ (by omega) h a (by rw [e2]; exact b)
theorem cancel_lead {n c d : Nat} {r p : List Int} (hr : LeadAt n d r) (hp : LeadAt n c p) (hdc : d < c) : LeadAt n d (cancelR r p c) := by
  have e : r.length = p.length := by rw [hr.len, hp.len]
  refine ⟨by rw [cancelR_length _ _ _ e, hr.len], hr.le, fun h => ?_, fun i hi => cancel_before e (hr.before i hi) (hp.before i (by omega))⟩
  rw [cancelR_zero r p c d e] at h
  unfold mixR at h
  rw [hp.before d hdc, Int.zero_mul, Int.add_zero] at h
  have h2 := Int.tdiv_mul_cancel (Int.gcd_dvd_right (r.getD c 0) (p.getD c 0))
  rcases Int.mul_eq_zero.1 h with h | h
  · exact hr.at_ h
  · rw [h] at h2; exact hp.at_ (by omega)
theorem colR_ech (n : Nat) (hn : n ≤ 9) {p : List Int} {c : Nat} (hp : LeadAt n c p) : ∀ d S, d ≤ c → Ech n S → Ech n (colR p c d S) := by
  intro d
  induction d with
  | zero => intro S _ h; exact h
  | succ d ih =>
    intro S hd h
    have hh := ih S (by omega) h
    unfold colR
    split
    · exact hh
    · rename_i r hr
      exact hh.set (cancel_lead (hh.2 _ _ hr) hp (by omega)) hn
theorem primR_lead {n c : Nat} {r : List Int} (h : LeadAt n c r) : LeadAt n c (primR r) :=
  ⟨by rw [primR_length, h.len], h.le, fun e => h.at_ ((primR_zero r c).1 e), fun i hi => (primR_zero r i).2 (h.before i hi)⟩
theorem negR_getD (r : List Int) (i : Nat) : (negR r).getD i 0 = -(r.getD i 0) := getD_map0 _ (by simp) r i
theorem posR_lead {n c : Nat} {r : List Int} (h : LeadAt n c r) : LeadAt n c (posR c r) := by
  unfold posR
  split
  · refine ⟨by simp [negR, h.len], h.le, ?_, fun i hi => ?_⟩
    · rw [negR_getD]; have := h.at_; omega
    · rw [negR_getD, h.before i hi]; rfl
  · exact h
theorem redR_ech (n : Nat) (hn : n ≤ 9) : ∀ k S, k ≤ n + 1 → Ech n S → Ech n (redR k S) := by
  intro k
  induction k with
  | zero => intro S _ h; exact h
  | succ c ih =>
    intro S hc h
    unfold redR
    split
    · exact ih S (by omega) h
    · rename_i p hp
      have hl := h.2 _ _ hp
      exact ih _ (by omega) ((colR_ech n hn hl c S (Nat.le_refl _) h).set (posR_lead (primR_lead hl)) hn)
theorem startR (n : Nat) : Ech n (List.replicate 10 none) := by
  refine ⟨by simp, fun c r h => ?_⟩
  simp only [List.getD_eq_getElem?_getD, List.getElem?_replicate] at h
  split at h <;> simp at h
/-! Bounds: how many digits the integers have. -/
def Bd (k : Nat) (r : List Int) : Prop := ∀ x, x ∈ r → bl x ≤ k
theorem Bd.mono {k m : Nat} {r : List Int} (h : Bd k r) (hm : k ≤ m) : Bd m r := fun x hx => Nat.le_trans (h x hx) hm
theorem bl_zero : bl 0 = 0 := by unfold bl; rw [show (0 : Int).natAbs = 0 from rfl, digs_zero]; rfl
theorem bl_neg {x : Int} : bl (-x) = bl x := by unfold bl; rw [Int.natAbs_neg]
theorem Bd.getD {k : Nat} {r : List Int} (h : Bd k r) (i : Nat) : bl (r.getD i 0) ≤ k := by
  rcases getD_mem0 r i with e | e
  · rw [e, bl_zero]; exact Nat.zero_le _
  · exact h _ e
theorem Bd.times {k l m : Nat} {x : Int} {r : List Int} (h : Bd k r) (hx : bl x ≤ l) (hm : k + l ≤ m) : Bd m (timesR x r) := by
  intro y hy
  obtain ⟨z, hz, rfl⟩ := List.mem_map.1 hy
  exact bl_mul (h z hz) hx hm
theorem Bd.over {k : Nat} {d : Int} {r : List Int} (h : Bd k r) : Bd k (overR d r) := by
  intro y hy
  obtain ⟨z, hz, rfl⟩ := List.mem_map.1 hy
  exact bl_tdiv (h z hz)
theorem Bd.neg {k : Nat} {r : List Int} (h : Bd k r) : Bd k (negR r) := by
  intro y hy
  obtain ⟨z, hz, rfl⟩ := List.mem_map.1 hy
  rw [bl_neg]; exact h z hz
theorem Bd.plus {k m : Nat} {r s : List Int} (h : Bd k r) (g : Bd k s) (hm : k + 1 ≤ m) : Bd m (plusR r s) := by
  intro y hy
  unfold plusR at hy
  obtain ⟨i, hi, rfl⟩ := List.mem_iff_getElem.1 hy
  rw [List.getElem_zipWith]
  exact bl_add (h _ (List.getElem_mem _)) (g _ (List.getElem_mem _)) hm
theorem Bd.prim {k : Nat} {r : List Int} (h : Bd k r) : Bd k (primR r) := by
  unfold primR
  split
  · exact h
  · exact h.over
theorem Bd.cancel {k l m : Nat} {r p : List Int} (h : Bd k r) (g : Bd l p) (c : Nat) (hm : k + l + 1 ≤ m) : Bd m (cancelR r p c) := by
  unfold cancelR
  refine (Bd.plus (k := k + l) (h.times (bl_tdiv (g.getD c)) (Nat.le_refl _)) (g.times (l := k) ?_ (by omega)) hm).prim
  rw [bl_neg]; exact bl_tdiv (h.getD c)
theorem gcdR_bl (r : List Int) : ∀ g k, bl (g : Nat) ≤ k → Bd k r → bl ((gcdR g r : Nat) : Int) ≤ k := by
  induction r with
  | nil => intro g k h _; exact h
  | cons x r ih =>
    intro g k h hr
    refine ih _ _ ?_ fun y hy => hr y (by simp [hy])
    rcases Nat.eq_zero_or_pos g with h0 | h0
    · subst h0
      rw [Nat.gcd_zero_left]
      have := hr x (by simp)
      unfold bl at this ⊢
      rwa [Int.natAbs_natCast]
    · refine Nat.le_trans ?_ h
      unfold bl
      exact bl_le_of_le (by rw [Int.natAbs_natCast, Int.natAbs_natCast]; exact Nat.gcd_le_left _ h0)
def SB (f : Nat → Nat) (S : Sys) : Prop := ∀ c r, S.getD c none = some r → Bd (f c) r
theorem SB.set {n : Nat} {f : Nat → Nat} {S : Sys} (hS : Ech n S) (h : SB f S) {c : Nat} {r : List Int} (hc : c ≤ 9) (hr : Bd (f c) r) : SB f (S.set c (some r)) := by
  intro d q hd
  rw [getD_set S c d _ (by rw [hS.1]; omega)] at hd
  split at hd
  · rename_i e; subst e; cases hd; exact hr
  · exact h d q hd
def grow (K c : Nat) : Nat := 2 ^ c * (K + 1) - 1
theorem grow_next (K c : Nat) : grow K (c + 1) = grow K c + grow K c + 1 := by
  unfold grow
  have : 0 < 2 ^ c * (K + 1) := Nat.mul_pos (Nat.two_pow_pos c) (by omega)
  rw [Nat.pow_succ]
  have e : 2 ^ c * 2 * (K + 1) = 2 * (2 ^ c * (K + 1)) := by rw [Nat.mul_comm (2 ^ c) 2, Nat.mul_assoc]
  rw [e]; omega
theorem insR_sb (n K : Nat) (hn : n ≤ 9) : ∀ k S r, k ≤ n + 1 → Ech n S → r.length = n + 1 → Zeros (n + 1 - k) r → SB (grow K) S → Bd (grow K (n + 1 - k)) r → SB (grow K) (insR n k S r) := by
  intro k
  induction k with
  | zero => intro S r _ _ _ _ h _; exact h
  | succ k ih =>
    intro S r hk h hl hz hs hb
    have e : n + 1 - (k + 1) = n - k := by omega
    have e2 : n + 1 - k = n - k + 1 := by omega
    rw [e] at hz hb
    unfold insR
    split
    · rename_i h0
      refine ih S r (by omega) h hl (fun i hi => ?_) hs (hb.mono (by rw [e2, grow_next]; omega))
      rcases Nat.lt_or_ge i (n - k) with hh | hh
      · exact hz i hh
      · have : i = n - k := by omega
        rw [this]; exact h0
    · rename_i h0
      split
      · exact hs.set h (by omega) hb
      · rename_i p hp
        obtain ⟨a, b⟩ := cancel_next hl hz (h.2 _ p hp)
        exact ih S _ (by omega) h a (by rw [e2]; exact b) hs (hb.cancel (hs _ _ hp) _ (by rw [e2, grow_next]; omega))
theorem colR_sb (n M : Nat) (hn : n ≤ 9) {p : List Int} {c : Nat} (hp : LeadAt n c p) (hpb : Bd M p) : ∀ d S, d ≤ c → Ech n S → SB (fun i => if i < c then M else 2 * M + 1) S → SB (fun i => if i < d then 2 * M + 1 else if i < c then M else 2 * M + 1) (colR p c d S) := by
  intro d
  induction d with
  | zero => intro S _ _ h; simpa [colR] using h
  | succ d ih =>
    intro S hd h hs
    have hh := colR_ech n hn hp d S (by omega) h
    have hb := ih S (by omega) h hs
    have hb' : SB (fun i => if i < d + 1 then 2 * M + 1 else if i < c then M else 2 * M + 1) (colR p c d S) := by
      intro i r hi
      refine (hb i r hi).mono ?_
      show (if i < d then 2 * M + 1 else if i < c then M else 2 * M + 1) ≤ (if i < d + 1 then 2 * M + 1 else if i < c then M else 2 * M + 1)
      repeat' split
      all_goals omega
    unfold colR
    split
    · exact hb'
    · rename_i r hr
      refine hb'.set hh (by have := hp.le; omega) ?_
      have h1 := hb d r hr
      simp only [Nat.lt_irrefl, if_false] at h1
      rw [if_pos (by omega)] at h1
      show Bd (if d < d + 1 then _ else _) _
      rw [if_pos (by omega)]
      exact h1.cancel hpb c (by omega)
theorem redR_sb (n : Nat) (hn : n ≤ 9) : ∀ k S M, k ≤ n + 1 → Ech n S → SB (fun _ => M) S → SB (fun _ => 2 ^ k * (M + 1) - 1) (redR k S) := by
  intro k
  induction k with
  | zero => intro S M _ _ h; simpa [redR] using h
  | succ c ih =>
    intro S M hc h hs
    have e : 2 ^ (c + 1) * (M + 1) - 1 = 2 ^ c * ((2 * M + 1) + 1) - 1 := by
      rw [Nat.pow_succ, Nat.mul_assoc]; congr 2
    have pw : 0 < 2 ^ c := Nat.two_pow_pos c
    unfold redR
    split
    · intro i r hi
      refine (ih S M (by omega) h hs i r hi).mono ?_
      show 2 ^ c * (M + 1) - 1 ≤ 2 ^ (c + 1) * (M + 1) - 1
      rw [e]
      have : 2 ^ c * (M + 1) ≤ 2 ^ c * ((2 * M + 1) + 1) := Nat.mul_le_mul_left _ (by omega)
      omega
    · rename_i p hp
      have hl := h.2 _ _ hp
      have hb := colR_sb n M hn hl (hs _ _ hp) c S (Nat.le_refl _) h (fun i r hi => (hs i r hi).mono (by show M ≤ if i < c then M else 2 * M + 1; split <;> omega))
      have hE := colR_ech n hn hl c S (Nat.le_refl _) h
      have hq : Bd M (posR c (primR p)) := by
        unfold posR; split
        · exact (hs _ _ hp).prim.neg
        · exact (hs _ _ hp).prim
      have hb2 : SB (fun _ => 2 * M + 1) (colR p c c S) := fun i r hi => (hb i r hi).mono (by
        show (if i < c then 2 * M + 1 else if i < c then M else 2 * M + 1) ≤ 2 * M + 1
        repeat' split
        all_goals omega)
      have := ih _ (2 * M + 1) (by omega) (hE.set (posR_lead (primR_lead hl)) hn) (hb2.set hE (by have := hl.le; omega) (hq.mono (by omega)))
      rw [e]; exact this
end Go.Proofs.YtacbjbnocepnaaaGreatDoor

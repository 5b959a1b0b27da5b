/- Plain facts about the solutions of a system, and its uniqueness. -/
import Derived.Test.YtacbjbnocepnaaaGreatDoorQHF
namespace Go.Proofs.YtacbjbnocepnaaaGreatDoor
open Fm
def dotR : List Int → (Nat → Rat) → Rat
  | [], _ => 0
  | a :: r, X => (a : Rat) * X 0 + dotR r (fun i => X (i + 1))
theorem dotR_plus (r : List Int) : ∀ (s : List Int) (X : Nat → Rat), r.length = s.length → dotR (plusR r s) X = dotR r X + dotR s X := by
  induction r with
  | nil => intro s X h; cases s with | nil => simp [plusR, dotR, Rat.add_zero] | cons b s => cases h
  | cons a r ih =>
    intro s X h
    cases s with
    | nil => cases h
    | cons b s =>
      have hh : r.length = s.length := by simpa using h
      have e := ih s (fun i => X (i + 1)) hh
      unfold plusR at e ⊢
      simp only [List.zipWith_cons_cons, dotR, e, Rat.intCast_add, Rat.add_mul]
      grind
theorem dotR_times (x : Int) (r : List Int) : ∀ (X : Nat → Rat), dotR (timesR x r) X = (x : Rat) * dotR r X := by
  induction r with
  | nil => intro X; simp [timesR, dotR, Rat.mul_zero]
  | cons a r ih =>
    intro X
    have e := ih (fun i => X (i + 1))
    unfold timesR at e ⊢
    simp only [List.map_cons, dotR, e, Rat.intCast_mul]
    grind
theorem dotR_neg (r : List Int) (X : Nat → Rat) : dotR (negR r) X = -dotR r X := by
  have h : negR r = timesR (-1) r := by
    unfold negR timesR
    apply List.map_congr_left
    intro a _; omega
  rw [h, dotR_times]
  have : ((-1 : Int) : Rat) = -1 := by rfl
  rw [this]; grind
theorem dotR_zero (r : List Int) : ∀ (X : Nat → Rat), (∀ i, i < r.length → r.getD i 0 = 0) → dotR r X = 0 := by
  induction r with
  | nil => intro X _; rfl
  | cons a r ih =>
    intro X h
    have h0 : a = 0 := by simpa using h 0 (by simp)
    have h1 := ih (fun i => X (i + 1)) (fun i hi => by simpa using h (i + 1) (by simpa using hi))
    subst h0
    simp only [dotR, h1]
    have : ((0 : Int) : Rat) = 0 := rfl
    rw [this, Rat.zero_mul, Rat.add_zero]
theorem int_rat_zero {x : Int} : (x : Rat) = 0 ↔ x = 0 := by
  constructor
  · intro h
    exact Rat.intCast_inj.1 (show ((x : Int) : Rat) = ((0 : Int) : Rat) from h)
  · intro h; subst h; rfl
theorem primR_times (r : List Int) : ∃ g : Int, g ≠ 0 ∧ 0 ≤ g ∧ timesR g (primR r) = r := by
  unfold primR
  split
  · exact ⟨1, by omega, by omega, by unfold timesR; simp⟩
  · rename_i h
    refine ⟨(gcdR 0 r : Nat), by omega, by omega, ?_⟩
    unfold timesR
    rw [List.map_map]
    conv => rhs; rw [← List.map_id r]
    apply List.map_congr_left
    intro x hx
    exact Int.tdiv_mul_cancel (gcdR_dvd r 0 x hx)
theorem dotR_prim (r : List Int) (X : Nat → Rat) : dotR (primR r) X = 0 ↔ dotR r X = 0 := by
  obtain ⟨g, h0, -, h⟩ := primR_times r
  conv => rhs; rw [← h, dotR_times]
  constructor
  · intro e; rw [e, Rat.mul_zero]
  · intro e
    rcases Rat.mul_eq_zero.1 e with e | e
    · exact absurd (int_rat_zero.1 e) h0
    · exact e
theorem tdiv_gcd_ne {a b : Int} (hb : b ≠ 0) : b.tdiv (Int.gcd a b) ≠ 0 := by
  intro e
  have := Int.tdiv_mul_cancel (Int.gcd_dvd_right a b)
  rw [e] at this
  omega
theorem dotR_cancel {r p : List Int} {c : Nat} (hl : r.length = p.length) (hp : p.getD c 0 ≠ 0) (X : Nat → Rat) (h0 : dotR p X = 0) : dotR (cancelR r p c) X = 0 ↔ dotR r X = 0 := by
  unfold cancelR
  rw [dotR_prim, dotR_plus _ _ _ (by simp [timesR, hl]), dotR_times, dotR_times, h0, Rat.mul_zero, Rat.add_zero]
  constructor
  · intro e
    rcases Rat.mul_eq_zero.1 e with e | e
    · exact absurd (int_rat_zero.1 e) (tdiv_gcd_ne hp)
    · exact e
  · intro e; rw [e, Rat.mul_zero]
def ZS (S : Sys) (X : Nat → Rat) : Prop := ∀ c r, S.getD c none = some r → dotR r X = 0
theorem ZS_set {S : Sys} {X : Nat → Rat} {c : Nat} {r : List Int} (hc : c < S.length) (hn : S.getD c none = none) : ZS (S.set c (some r)) X ↔ ZS S X ∧ dotR r X = 0 := by
  constructor
  · intro h
    refine ⟨fun d q hd => h d q ?_, h c r ?_⟩
    · rw [getD_set S c d _ hc, if_neg (by intro e; subst e; rw [hn] at hd; cases hd)]; exact hd
    · rw [getD_set S c c _ hc, if_pos rfl]
  · rintro ⟨h1, h2⟩ d q hd
    rw [getD_set S c d _ hc] at hd
    split at hd
    · cases hd; exact h2
    · exact h1 d q hd
theorem ZS_set2 {S : Sys} {X : Nat → Rat} {c : Nat} {r q : List Int} (hc : c < S.length) (hn : S.getD c none = some q) (he : (∀ d t, d ≠ c → S.getD d none = some t → dotR t X = 0) → (dotR r X = 0 ↔ dotR q X = 0)) : ZS (S.set c (some r)) X ↔ ZS S X := by
  constructor
  · intro h
    have hr : dotR r X = 0 := h c r (by rw [getD_set S c c _ hc, if_pos rfl])
    have ho : ∀ d t, d ≠ c → S.getD d none = some t → dotR t X = 0 := fun d t hd ht => h d t (by rw [getD_set S c d _ hc, if_neg (Ne.symm hd)]; exact ht)
    intro d t hd
    by_cases hdc : d = c
    · subst hdc; rw [hn] at hd; cases hd; exact (he ho).1 hr
    · exact ho d t hdc hd
  · intro h d t hd
    rw [getD_set S c d _ hc] at hd
    split at hd
    · cases hd; exact (he fun d t _ ht => h d t ht).2 (h c q hn)
    · exact h d t hd
theorem insR_ZS (n : Nat) (hn : n ≤ 9) (X : Nat → Rat) : ∀ k S r, k ≤ n + 1 → Ech n S → r.length = n + 1 → Zeros (n + 1 - k) r → (ZS (insR n k S r) X ↔ ZS S X ∧ dotR r X = 0) := by
  intro k
  induction k with
  | zero =>
    intro S r _ _ hl hz
    have : dotR r X = 0 := dotR_zero r X fun i hi => hz i (by omega)
    simp [insR, this]
  | succ k ih =>
    intro S r hk h hl hz
    have e : n + 1 - (k + 1) = n - k := by omega
    have e2 : n + 1 - k = n - k + 1 := by omega
    rw [e] at hz
    unfold insR
    split
    · rename_i h0
      refine ih S r (by omega) h hl fun i hi => ?_
      rcases Nat.lt_or_ge i (n - k) with hh | hh
      · exact hz i hh
      · have : i = n - k := by omega
        rw [this]; exact h0
    · rename_i h0
      split
      · rename_i hnone
        exact ZS_set (by rw [h.1]; omega) hnone
      · rename_i p hp
        have hlp := h.2 _ p hp
        obtain ⟨a, b⟩ := cancel_next hl hz hlp
        rw [ih S _ (by omega) h a (by rw [e2]; exact b)]
        constructor
        · rintro ⟨h1, h2⟩
          exact ⟨h1, (dotR_cancel (by rw [hl, hlp.len]) hlp.at_ X (h1 _ _ hp)).1 h2⟩
        · rintro ⟨h1, h2⟩
          exact ⟨h1, (dotR_cancel (by rw [hl, hlp.len]) hlp.at_ X (h1 _ _ hp)).2 h2⟩
theorem fold_ZS (n : Nat) (hn : n ≤ 9) (X : Nat → Rat) : ∀ (ls : List (List Int)) (S : Sys), (∀ r, r ∈ ls → r.length = n + 1) → Ech n S → Ech n (ls.foldl (fun S r => insR n (n + 1) S r) S) ∧ (ZS (ls.foldl (fun S r => insR n (n + 1) S r) S) X ↔ ZS S X ∧ ∀ r, r ∈ ls → dotR r X = 0) := by
  intro ls
  induction ls with
  | nil => intro S _ h; exact ⟨h, by simp⟩
  | cons r ls ih =>
    intro S hl h
    have hr := hl r (by simp)
    have hz : Zeros (n + 1 - (n + 1)) r := fun i hi => by omega
    obtain ⟨i1, i2⟩ := ih _ (fun q hq => hl q (by simp [hq])) (insR_ech n hn _ S r (Nat.le_refl _) h hr hz)
    refine ⟨i1, ?_⟩
    rw [List.foldl_cons, i2, insR_ZS n hn X _ S r (Nat.le_refl _) h hr hz]
    simp only [List.mem_cons, forall_eq_or_imp, and_assoc]
theorem colR_ge (p : List Int) (c : Nat) (S : Sys) (hS : S.length = 10) (hc : c ≤ 9) : ∀ d, d ≤ c → (colR p c d S).length = 10 ∧ ∀ i, d ≤ i → (colR p c d S).getD i none = S.getD i none := by
  intro d
  induction d with
  | zero => intro _; exact ⟨hS, fun i _ => rfl⟩
  | succ d ih =>
    intro hd
    obtain ⟨i1, i2⟩ := ih (by omega)
    unfold colR
    split
    · exact ⟨i1, fun i hi => i2 i (by omega)⟩
    · refine ⟨by simp [i1], fun i hi => ?_⟩
      rw [getD_set _ d i _ (by rw [i1]; omega), if_neg (by omega)]
      exact i2 i (by omega)
theorem colR_ZS (n : Nat) (hn : n ≤ 9) (X : Nat → Rat) {p : List Int} {c : Nat} {S : Sys} (hp : S.getD c none = some p) (h : Ech n S) : ∀ d, d ≤ c → (ZS (colR p c d S) X ↔ ZS S X) := by
  have hl := h.2 _ _ hp
  have hc9 : c ≤ 9 := by have := hl.le; omega
  intro d
  induction d with
  | zero => intro _; exact Iff.rfl
  | succ d ih =>
    intro hd
    have hh := colR_ech n hn hl d S (by omega) h
    obtain ⟨g1, g2⟩ := colR_ge p c S h.1 hc9 d (by omega)
    rw [← ih (by omega)]
    cases hr : (colR p c d S).getD d none with
    | none => rw [show colR p c (d + 1) S = colR p c d S by rw [colR.eq_2, hr]]
    | some r =>
      rw [show colR p c (d + 1) S = (colR p c d S).set d (some (cancelR r p c)) by rw [colR.eq_2, hr]]
      exact ZS_set2 (by rw [hh.1]; omega) hr fun ho => dotR_cancel (by rw [(hh.2 _ _ hr).len, hl.len]) hl.at_ X (ho c p (by omega) (by rw [g2 c (by omega)]; exact hp))
theorem dotR_pos (c : Nat) (q : List Int) (X : Nat → Rat) : dotR (posR c q) X = 0 ↔ dotR q X = 0 := by
  unfold posR
  split
  · rw [dotR_neg]
    constructor
    · intro h; grind
    · intro h; rw [h]; rfl
  · exact Iff.rfl
theorem redR_ZS (n : Nat) (hn : n ≤ 9) (X : Nat → Rat) : ∀ k S, k ≤ n + 1 → Ech n S → (ZS (redR k S) X ↔ ZS S X) := by
  intro k
  induction k with
  | zero => intro S _ _; exact Iff.rfl
  | succ c ih =>
    intro S hc h
    unfold redR
    split
    · exact ih S (by omega) h
    · rename_i p hp
      have hl := h.2 _ _ hp
      have hE := colR_ech n hn hl c S (Nat.le_refl _) h
      obtain ⟨g1, g2⟩ := colR_ge p c S h.1 (by omega) c (Nat.le_refl _)
      rw [ih _ (by omega) (hE.set (posR_lead (primR_lead hl)) hn), ZS_set2 (q := p) (by rw [hE.1]; omega) (by rw [g2 c (Nat.le_refl _)]; exact hp) (fun _ => by rw [dotR_pos, dotR_prim])]
      exact colR_ZS n hn X hp h c (Nat.le_refl _)
theorem start_ZS (X : Nat → Rat) : ZS (List.replicate 10 none) X := by
  intro c r h
  simp only [List.getD_eq_getElem?_getD, List.getElem?_replicate] at h
  split at h <;> simp at h
theorem sysR_ZS (n : Nat) (hn : n ≤ 9) (X : Nat → Rat) (ls : List (List Int)) (hl : ∀ r, r ∈ ls → r.length = n + 1) : ZS (sysR n ls) X ↔ ∀ r, r ∈ ls → dotR r X = 0 := by
  obtain ⟨h1, h2⟩ := fold_ZS n hn X ls _ hl (startR n)
  unfold sysR
  rw [redR_ZS n hn X _ _ (Nat.le_refl _) h1, h2]
  exact ⟨fun h => h.2, fun h => ⟨start_ZS X, h⟩⟩
end Go.Proofs.YtacbjbnocepnaaaGreatDoor
namespace Go.Proofs.YtacbjbnocepnaaaGreatDoor
open Fm
theorem gcdR_times (x : Int) (r : List Int) : ∀ g, gcdR (x.natAbs * g) (timesR x r) = x.natAbs * gcdR g r := by
  induction r with
  | nil => intro g; rfl
  | cons a r ih =>
    intro g
    have := ih (Nat.gcd g a.natAbs)
    unfold timesR at this ⊢
    simp only [List.map_cons, gcdR]
    rw [← this, ← Nat.gcd_mul_left, Int.natAbs_mul, Nat.mul_comm a.natAbs]
def PrimR (r : List Int) : Prop := gcdR 0 r = 1
theorem gcdR_times0 (x : Int) (r : List Int) : gcdR 0 (timesR x r) = x.natAbs * gcdR 0 r := by
  have := gcdR_times x r 0
  rwa [Nat.mul_zero] at this
theorem gcdR_ne {r : List Int} {c : Nat} (h : r.getD c 0 ≠ 0) : gcdR 0 r ≠ 0 := by
  intro e
  rcases getD_mem0 r c with h1 | h1
  · exact h h1
  · have := gcdR_dvd r 0 _ h1
    rw [e] at this
    exact h (by simpa using this)
theorem primR_prim {r : List Int} {c : Nat} (h : r.getD c 0 ≠ 0) : PrimR (primR r) := by
  have hg := gcdR_ne h
  have e : timesR (gcdR 0 r : Nat) (primR r) = r := by
    unfold primR
    rw [if_neg hg]
    unfold timesR
    rw [List.map_map]
    conv => rhs; rw [← List.map_id r]
    apply List.map_congr_left
    intro x hx
    exact Int.tdiv_mul_cancel (gcdR_dvd r 0 x hx)
  have h2 := gcdR_times0 (gcdR 0 r : Nat) (primR r)
  rw [e, Int.natAbs_natCast] at h2
  unfold PrimR
  have : gcdR 0 r * 1 = gcdR 0 r * gcdR 0 (primR r) := by omega
  exact (Nat.eq_of_mul_eq_mul_left (by omega) this).symm
theorem negR_times (r : List Int) : negR r = timesR (-1) r := by
  unfold negR timesR
  apply List.map_congr_left
  intro a _; omega
theorem PrimR.pos {r : List Int} (h : PrimR r) (c : Nat) : PrimR (posR c r) := by
  unfold posR
  split
  · rw [negR_times]; unfold PrimR; rw [gcdR_times0]; unfold PrimR at h; rw [h]; rfl
  · exact h
theorem posR_pos {r : List Int} {c : Nat} (h : r.getD c 0 ≠ 0) : 0 < (posR c r).getD c 0 := by
  unfold posR
  split
  · rw [negR_getD]; omega
  · omega
theorem prop_eq {r s : List Int} {a b : Int} (ha : 0 < a) (hb : 0 < b) (hr : PrimR r) (hs : PrimR s) (h : timesR a r = timesR b s) : r = s := by
  have e1 := gcdR_times0 a r
  have e2 := gcdR_times0 b s
  unfold PrimR at hr hs
  rw [h, e2, hr, hs] at e1
  have e : a = b := by omega
  subst e
  unfold timesR at h
  have hl : r.length = s.length := by simpa using congrArg List.length h
  refine List.ext_getElem hl fun i h1 h2 => ?_
  have h3 : (r.map (· * a))[i]'(by simpa using h1) = (s.map (· * a))[i]'(by simpa using h2) := by simp only [h]
  rw [List.getElem_map, List.getElem_map] at h3
  exact Int.eq_of_mul_eq_mul_right (by omega) h3
structure RedK (n k : Nat) (S : Sys) : Prop where
  ech : Ech n S
  prim : ∀ c r, k ≤ c → S.getD c none = some r → PrimR r ∧ 0 < r.getD c 0
  zero : ∀ c d r q, k ≤ c → d ≠ c → S.getD c none = some r → S.getD d none = some q → q.getD c 0 = 0
theorem colR_row {n : Nat} (hn : n ≤ 9) {p : List Int} {c : Nat} {S : Sys} (hp : S.getD c none = some p) (h : Ech n S) : ∀ d, d ≤ c → ∀ i, i < d → (colR p c d S).getD i none = (S.getD i none).map fun r => cancelR r p c := by
  have hl := h.2 _ _ hp
  have hc9 : c ≤ 9 := by have := hl.le; omega
  intro d
  induction d with
  | zero => intro _ i hi; omega
  | succ d ih =>
    intro hd i hi
    obtain ⟨g1, g2⟩ := colR_ge p c S h.1 hc9 d (by omega)
    have hd0 := g2 d (Nat.le_refl _)
    cases hr : S.getD d none with
    | none =>
      rw [show colR p c (d + 1) S = colR p c d S by rw [colR.eq_2, hd0, hr]]
      rcases Nat.lt_or_ge i d with h1 | h1
      · exact ih (by omega) i h1
      · have : i = d := by omega
        subst this
        rw [hd0, hr]; rfl
    | some r =>
      rw [show colR p c (d + 1) S = (colR p c d S).set d (some (cancelR r p c)) by rw [colR.eq_2, hd0, hr], getD_set _ d i _ (by rw [g1]; omega)]
      split
      · rename_i e; subst e; rw [hr]; rfl
      · exact ih (by omega) i (by omega)
theorem redR_redK (n : Nat) (hn : n ≤ 9) : ∀ k S, k ≤ n + 1 → RedK n k S → RedK n 0 (redR k S) := by
  intro k
  induction k with
  | zero => intro S _ h; exact h
  | succ c ih =>
    intro S hc h
    unfold redR
    split
    · rename_i hnone
      refine ih S (by omega) ⟨h.ech, fun c' r hc' hr => ?_, fun c' d r q hc' hd hr hq => ?_⟩
      · rcases Nat.lt_or_ge c c' with h1 | h1
        · exact h.prim c' r h1 hr
        · have : c' = c := by omega
          subst this; rw [hnone] at hr; cases hr
      · rcases Nat.lt_or_ge c c' with h1 | h1
        · exact h.zero c' d r q h1 hd hr hq
        · have : c' = c := by omega
          subst this; rw [hnone] at hr; cases hr
    · rename_i p hp
      have hl := h.ech.2 _ _ hp
      have hE := colR_ech n hn hl c S (Nat.le_refl _) h.ech
      obtain ⟨g1, g2⟩ := colR_ge p c S h.ech.1 (by omega) c (Nat.le_refl _)
      have g3 := colR_row hn hp h.ech c (Nat.le_refl _)
      have hES := hE.set (posR_lead (primR_lead hl)) hn
      have key : ∀ i, ((colR p c c S).set c (some (posR c (primR p)))).getD i none = if i = c then some (posR c (primR p)) else if i < c then (S.getD i none).map (fun r => cancelR r p c) else S.getD i none := by
        intro i
        rw [getD_set _ c i _ (by rw [g1]; omega)]
        split
        · rename_i e; subst e; rw [if_pos rfl]
        · rename_i e
          rw [if_neg (Ne.symm e)]
          split
          · rename_i h1; exact g3 i h1
          · exact g2 i (by omega)
      have pz : ∀ c' r, c < c' → S.getD c' none = some r → p.getD c' 0 = 0 := fun c' r h1 h2 => h.zero c' c r p (by omega) (by omega) h2 hp
      have ppz : ∀ i, p.getD i 0 = 0 → (posR c (primR p)).getD i 0 = 0 := fun i hi => by
        unfold posR
        split
        · rw [negR_getD, (primR_zero p i).2 hi]; rfl
        · exact (primR_zero p i).2 hi
      refine ih _ (by omega) ⟨hES, fun c' r hc' hr => ?_, fun c' d r q hc' hd hr hq => ?_⟩
      · rw [key] at hr
        split at hr
        · rename_i e; subst e; cases hr
          exact ⟨(primR_prim hl.at_).pos _, posR_pos (fun e => hl.at_ ((primR_zero p c').1 e))⟩
        · rw [if_neg (by omega)] at hr
          exact h.prim c' r (by omega) hr
      · rcases Nat.lt_or_ge c c' with h1 | h1
        · -- a column that was done before
          rw [key, if_neg (by omega), if_neg (by omega)] at hr
          rw [key] at hq
          split at hq
          · cases hq; exact ppz c' (pz c' r h1 hr)
          · split at hq
            · cases ht : S.getD d none with
              | none => rw [ht] at hq; cases hq
              | some t =>
                rw [ht] at hq; cases hq
                exact cancel_before (by rw [(h.ech.2 _ _ ht).len, hl.len]) (h.zero c' d r t (by omega) hd hr ht) (pz c' r h1 hr)
            · exact h.zero c' d r q (by omega) hd hr hq
        · have : c' = c := by omega
          subst this
          rw [key, if_neg hd] at hq
          split at hq
          · cases ht : S.getD d none with
            | none => rw [ht] at hq; cases hq
            | some t =>
              rw [ht] at hq; cases hq
              have e : t.length = p.length := by rw [(h.ech.2 _ _ ht).len, hl.len]
              exact (cancelR_zero t p c' c' e).2 (mixR_self t p c' hl.at_)
          · exact (h.ech.2 d q hq).before c' (by omega)
abbrev Red (n : Nat) (S : Sys) : Prop := RedK n 0 S
theorem sysR_red (n : Nat) (hn : n ≤ 9) (ls : List (List Int)) (hl : ∀ r, r ∈ ls → r.length = n + 1) : Red n (sysR n ls) := by
  obtain ⟨h1, -⟩ := fold_ZS n hn (fun _ => 0) ls _ hl (startR n)
  refine redR_redK n hn _ _ (Nat.le_refl _) ⟨h1, fun c r hc hr => ?_, fun c d r q hc _ hr _ => ?_⟩
  · have := (h1.2 c r hr).le; omega
  · have := (h1.2 c r hr).le; omega
theorem dotR_add (r : List Int) : ∀ (X Y : Nat → Rat), dotR r (fun i => X i + Y i) = dotR r X + dotR r Y := by
  induction r with
  | nil => intro X Y; simp [dotR, Rat.add_zero]
  | cons a r ih =>
    intro X Y
    simp only [dotR, ih (fun i => X (i + 1)) (fun i => Y (i + 1))]
    grind
theorem dotR_congr (r : List Int) : ∀ (X Y : Nat → Rat), (∀ i, i < r.length → ((r.getD i 0 : Int) : Rat) * X i = ((r.getD i 0 : Int) : Rat) * Y i) → dotR r X = dotR r Y := by
  induction r with
  | nil => intro X Y _; rfl
  | cons a r ih =>
    intro X Y h
    have h0 : (a : Rat) * X 0 = (a : Rat) * Y 0 := by simpa using h 0 (by simp)
    have h1 := ih (fun i => X (i + 1)) (fun i => Y (i + 1)) (fun i hi => by simpa using h (i + 1) (by simpa using hi))
    simp only [dotR, h0, h1]
theorem dotR_all0 (r : List Int) : ∀ (X : Nat → Rat), (∀ i, i < r.length → X i = 0) → dotR r X = 0 := by
  induction r with
  | nil => intro X _; rfl
  | cons a r ih =>
    intro X h
    simp only [dotR, h 0 (by simp), ih (fun i => X (i + 1)) (fun i hi => h (i + 1) (by simpa using hi)), Rat.mul_zero, Rat.add_zero]
theorem dotR_delta (r : List Int) : ∀ (c : Nat) (x : Rat), c < r.length → dotR r (fun i => if i = c then x else 0) = ((r.getD c 0 : Int) : Rat) * x := by
  induction r with
  | nil => intro c x h; simp at h
  | cons a r ih =>
    intro c x h
    cases c with
    | zero =>
      have := dotR_all0 r (fun i => if i + 1 = 0 then x else 0) (fun i _ => by simp)
      simp only [dotR, this]
      simp [Rat.add_zero]
    | succ c =>
      have h1 := ih c x (by simpa using h)
      have e : (fun i => if i + 1 = c + 1 then x else (0 : Rat)) = fun i => if i = c then x else 0 := by
        funext i; simp
      simp only [dotR, e, h1]
      simp [Rat.mul_zero, Rat.zero_add]
theorem dotR_one {r : List Int} {X : Nat → Rat} {c : Nat} (hc : c < r.length) (h : ∀ i, i < r.length → i ≠ c → r.getD i 0 = 0 ∨ X i = 0) : dotR r X = ((r.getD c 0 : Int) : Rat) * X c := by
  rw [← dotR_delta r c (X c) hc]
  refine dotR_congr _ _ _ fun i hi => ?_
  by_cases e : i = c
  · subst e; rw [if_pos rfl]
  · rw [if_neg e, Rat.mul_zero]
    rcases h i hi e with h1 | h1
    · rw [h1]; exact Rat.zero_mul _
    · rw [h1, Rat.mul_zero]
theorem dotR_two {r : List Int} {X : Nat → Rat} {c j : Nat} (hc : c < r.length) (hj : j < r.length) (hcj : c ≠ j) (h : ∀ i, i < r.length → i ≠ c → i ≠ j → r.getD i 0 = 0 ∨ X i = 0) : dotR r X = ((r.getD c 0 : Int) : Rat) * X c + ((r.getD j 0 : Int) : Rat) * X j := by
  rw [← dotR_delta r c (X c) hc, ← dotR_delta r j (X j) hj, ← dotR_add]
  refine dotR_congr _ _ _ fun i hi => ?_
  by_cases e : i = c
  · subst e; simp only [if_pos, if_neg hcj, Rat.add_zero]
  · by_cases e2 : i = j
    · subst e2; simp only [if_pos, if_neg e, Rat.zero_add]
    · simp only [if_neg e, if_neg e2, Rat.add_zero, Rat.mul_zero]
      rcases h i hi e e2 with h1 | h1
      · rw [h1]; exact Rat.zero_mul _
      · rw [h1, Rat.mul_zero]
def spec (S : Sys) (j i : Nat) : Rat := if i = j then 1 else match S.getD i none with
  | none => 0
  | some r => -((r.getD j 0 : Int) : Rat) / ((r.getD i 0 : Int) : Rat)
theorem spec_ZS {n j : Nat} {S : Sys} (h : Red n S) (hj : j ≤ n) (hf : S.getD j none = none) : ZS S (spec S j) := by
  intro c r hr
  have hl := h.ech.2 c r hr
  have hcj : c ≠ j := fun e => by subst e; rw [hf] at hr; cases hr
  have hc0 : ((r.getD c 0 : Int) : Rat) ≠ 0 := fun e => hl.at_ (int_rat_zero.1 e)
  rw [dotR_two (c := c) (j := j) (by rw [hl.len]; have := hl.le; omega) (by rw [hl.len]; omega) hcj]
  · have e1 : spec S j j = 1 := by unfold spec; rw [if_pos rfl]
    have e2 : spec S j c = -((r.getD j 0 : Int) : Rat) / ((r.getD c 0 : Int) : Rat) := by unfold spec; rw [if_neg hcj, hr]
    rw [e1, e2, Rat.mul_one, Rat.mul_comm, Rat.div_mul_cancel hc0]
    exact Rat.neg_add_cancel _
  · intro i hi hic hij
    unfold spec
    rw [if_neg hij]
    cases hq : S.getD i none with
    | none => right; rfl
    | some q => left; exact h.zero i c q r (Nat.zero_le _) (Ne.symm hic) hq hr
theorem lead_zero {n c : Nat} {S : Sys} {r : List Int} (h : Ech n S) (hr : S.getD c none = some r) {X : Nat → Rat} (hX : ZS S X) (h0 : ∀ i, c < i → i ≤ n → X i = 0) : X c = 0 := by
  have hl := h.2 c r hr
  have h1 := hX c r hr
  rw [dotR_one (c := c) (by rw [hl.len]; have := hl.le; omega)] at h1
  · rcases Rat.mul_eq_zero.1 h1 with e | e
    · exact absurd (int_rat_zero.1 e) hl.at_
    · exact e
  · intro i hi hic
    rcases Nat.lt_or_ge i c with h2 | h2
    · left; exact hl.before i h2
    · right; exact h0 i (by omega) (by rw [hl.len] at hi; omega)
theorem lead_sub {n : Nat} {S T : Sys} (hS : Red n S) (hT : Red n T) (he : ∀ X, ZS T X → ZS S X) {c : Nat} {r : List Int} (hr : S.getD c none = some r) : ∃ t, T.getD c none = some t := by
  cases ht : T.getD c none with
  | some t => exact ⟨t, rfl⟩
  | none =>
    exfalso
    have hc := (hS.ech.2 c r hr).le
    have h1 := he _ (spec_ZS hT hc ht)
    have h2 := lead_zero hS.ech hr h1 fun i hi hin => by
      unfold spec
      rw [if_neg (by omega)]
      cases hq : T.getD i none with
      | none => rfl
      | some q =>
        simp only
        rw [(hT.ech.2 i q hq).before c hi]
        have : ((0 : Int) : Rat) = 0 := rfl
        rw [this, Rat.div_def]; grind
    unfold spec at h2
    rw [if_pos rfl] at h2
    exact absurd h2 (by decide)
theorem row_eq {n d : Nat} {S T : Sys} {r t : List Int} (hS : Red n S) (hT : Red n T) (he : ∀ X, ZS S X → ZS T X) (hlead2 : ∀ c, T.getD c none = none → S.getD c none = none) (hr : S.getD d none = some r) (ht : T.getD d none = some t) : r = t := by
  have hlr := hS.ech.2 d r hr
  have hlt := hT.ech.2 d t ht
  obtain ⟨pr, rp⟩ := hS.prim d r (Nat.zero_le _) hr
  obtain ⟨pt, tp⟩ := hT.prim d t (Nat.zero_le _) ht
  have hd := hlr.le
  have hmul : ∀ j, t.getD j 0 * r.getD d 0 = r.getD j 0 * t.getD d 0 := by
    intro j
    by_cases hjd : j = d
    · subst hjd; exact Int.mul_comm _ _
    rcases Nat.lt_or_ge n j with hjn | hjn
    · have e1 : t.getD j 0 = 0 := by rw [List.getD_eq_getElem?_getD, List.getElem?_eq_none (by rw [hlt.len]; omega)]; rfl
      have e2 : r.getD j 0 = 0 := by rw [List.getD_eq_getElem?_getD, List.getElem?_eq_none (by rw [hlr.len]; omega)]; rfl
      rw [e1, e2]; simp
    cases hq : S.getD j none with
    | some q =>
      have e1 : r.getD j 0 = 0 := hS.zero j d q r (Nat.zero_le _) (Ne.symm hjd) hq hr
      cases hu : T.getD j none with
      | none => rw [hlead2 j hu] at hq; cases hq
      | some u =>
        have e2 : t.getD j 0 = 0 := hT.zero j d u t (Nat.zero_le _) (Ne.symm hjd) hu ht
        rw [e1, e2]; simp
    | none =>
      have h1 := he _ (spec_ZS hS hjn hq) d t ht
      rw [dotR_two (c := d) (j := j) (by rw [hlt.len]; omega) (by rw [hlt.len]; omega) (Ne.symm hjd)] at h1
      · have e1 : spec S j j = 1 := by unfold spec; rw [if_pos rfl]
        have e2 : spec S j d = -((r.getD j 0 : Int) : Rat) / ((r.getD d 0 : Int) : Rat) := by unfold spec; rw [if_neg (Ne.symm hjd), hr]
        rw [e1, e2, Rat.mul_one] at h1
        have hd0 : ((r.getD d 0 : Int) : Rat) ≠ 0 := fun e => by have := int_rat_zero.1 e; omega
        have h2 : ((t.getD j 0 : Int) : Rat) * ((r.getD d 0 : Int) : Rat) = ((r.getD j 0 : Int) : Rat) * ((t.getD d 0 : Int) : Rat) := by
          have h3 : -((r.getD j 0 : Int) : Rat) / ((r.getD d 0 : Int) : Rat) * ((r.getD d 0 : Int) : Rat) = -((r.getD j 0 : Int) : Rat) := Rat.div_mul_cancel hd0
          generalize -((r.getD j 0 : Int) : Rat) / ((r.getD d 0 : Int) : Rat) = y at *
          grind
        rw [← Rat.intCast_mul, ← Rat.intCast_mul] at h2
        exact Rat.intCast_inj.1 h2
      · intro i hi hid hij
        unfold spec
        rw [if_neg hij]
        cases hq2 : S.getD i none with
        | none => right; rfl
        | some q =>
          left
          cases hu : T.getD i none with
          | none => rw [hlead2 i hu] at hq2; cases hq2
          | some u => exact hT.zero i d u t (Nat.zero_le _) (Ne.symm hid) hu ht
  refine prop_eq tp rp pr pt ?_
  refine List.ext_getElem (by simp [timesR, hlr.len, hlt.len]) fun i h1 h2 => ?_
  have h3 := hmul i
  simp only [timesR, List.length_map] at h1 h2
  rw [List.getD_eq_getElem?_getD, List.getElem?_eq_getElem h2, List.getD_eq_getElem?_getD (l := r) (i := i), List.getElem?_eq_getElem h1] at h3
  simp only [timesR, List.getElem_map]
  exact h3.symm
theorem red_unique {n : Nat} {S T : Sys} (hS : Red n S) (hT : Red n T) (he : ∀ X, ZS S X ↔ ZS T X) : S = T := by
  have l1 : ∀ c, S.getD c none = none → T.getD c none = none := fun c h => by
    cases ht : T.getD c none with
    | none => rfl
    | some t =>
      obtain ⟨r, hr⟩ := lead_sub hT hS (fun X => (he X).1) ht
      rw [h] at hr; cases hr
  have l2 : ∀ c, T.getD c none = none → S.getD c none = none := fun c h => by
    cases ht : S.getD c none with
    | none => rfl
    | some t =>
      obtain ⟨r, hr⟩ := lead_sub hS hT (fun X => (he X).2) ht
      rw [h] at hr; cases hr
  have hg : ∀ c, S.getD c none = T.getD c none := fun c => by
    cases hr : S.getD c none with
    | none => exact (l1 c hr).symm
    | some r =>
      obtain ⟨t, ht⟩ := lead_sub hS hT (fun X => (he X).2) hr
      rw [ht, row_eq hS hT (fun X => (he X).1) l2 hr ht]
  refine List.ext_getElem (by rw [hS.ech.1, hT.ech.1]) fun i h1 h2 => ?_
  have := hg i
  rwa [List.getD_eq_getElem?_getD, List.getElem?_eq_getElem h1, List.getD_eq_getElem?_getD, List.getElem?_eq_getElem h2] at this
end Go.Proofs.YtacbjbnocepnaaaGreatDoor

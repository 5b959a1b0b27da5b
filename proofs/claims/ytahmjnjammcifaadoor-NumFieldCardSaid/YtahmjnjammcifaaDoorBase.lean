/- The predicates with which this seat's contracts speak of memory: rows of digits, slices that read as lists, integers of any size. -/
import Derived.Test.YtahmjnjammcifaaDoorProg
import Derived.Test.YtahmjnjammcifaaDoorMath
import Derived.WalkKit
import Derived.Handy
import Derived.Deep.QuietTactic
import Derived.BigQuiet
import Derived.Lib.Hide
import Derived.Deep.DeepCutAuto
import Derived.Laws.Rows
import Derived.Laws.CopyOwn
namespace Go.Proofs.YtahmjnjammcifaaDoor
open Go.RowKit Fm

theorem ret_int {k : IntKind} {a b : Int} (h : a = b) : Ending.returned (.int k a) = .returned (.int k b) := by rw [h]
theorem ret_bool {a b : Bool} (h : a = b) : Ending.returned (.bool a) = .returned (.bool b) := by rw [h]

/-- Nothing that was there has turned. -/
abbrev Up (w w' : World) : Prop := Below w.heap.size w w'
theorem Up.refl (w : World) : Up w w := Below.refl _ _
theorem Up.trans {a b c : World} (h : Up a b) (k : Up b c) : Up a c := Below.trans h (Below.mono k h.size)
theorem Up.drewN (w : World) (n : Nat) : Up w (w.drewN n) := ⟨rfl, rfl, rfl, Nat.le_refl _, fun _ _ => rfl⟩
theorem Up.drew (w : World) : Up w w.drew := ⟨rfl, rfl, rfl, Nat.le_refl _, fun _ _ => rfl⟩
theorem Up.alloc (w : World) (o : Obj) : Up w (w.alloc o) := (Below.refl _ _).alloc (Nat.le_refl _) o
theorem Up.cells {W w1 : World} (hb : Up W w1) : (∀ b o, b < W.heap.size → w1.cell? ⟨b, o, none⟩ = W.cell? ⟨b, o, none⟩) ∧ (∀ b o, b < W.heap.size → w1.frozen? ⟨b, o, none⟩ = W.frozen? ⟨b, o, none⟩) :=
  ⟨fun b o h => Below.cell hb (p := ⟨b, o, none⟩) h, fun b o h => Below.frozen hb (p := ⟨b, o, none⟩) h⟩

/-- The cells of a row of numbers. -/
def rowOf (k : IntKind) (xs : List Nat) : Array Value := (xs.map fun d : Nat => Value.int k (d : Int)).toArray
theorem rowOf_get (k : IntKind) (xs : List Nat) (i : Nat) : (rowOf k xs)[i]? = (xs[i]?).map fun d : Nat => Value.int k (d : Int) := by simp [rowOf]
theorem rowOf_set (k : IntKind) (xs : List Nat) (i x : Nat) : (rowOf k xs).setIfInBounds i (.int k (x : Int)) = rowOf k (xs.set i x) := by
  simp [rowOf, List.map_set]

/-- Block g is just this row. -/
def Row (k : IntKind) (t : TypeId) (w : World) (g : Nat) (xs : List Nat) : Prop := w.heap[g]? = some (.cells (rowOf k xs) t (0, 0))
section
variable {k : IntKind} {t : TypeId} {w w' : World} {g : Nat} {xs : List Nat}
theorem Row.lt (h : Row k t w g xs) : g < w.heap.size := by
  rcases Nat.lt_or_ge g w.heap.size with hlt | hge
  · exact hlt
  · unfold Row at h; rw [Array.getElem?_eq_none hge] at h; cases h
theorem Row.cell (h : Row k t w g xs) {i : Nat} (hi : i < xs.length) : w.cell? ⟨g, i, none⟩ = some (.int k (xs[i] : Nat)) := by
  rw [cell_of_row w g i _ t (0, 0) h, rowOf_get, List.getElem?_eq_getElem hi]; rfl
theorem Row.frozen (h : Row k t w g xs) (i : Nat) : w.frozen? ⟨g, i, none⟩ = false := by
  unfold Row at h; simp [World.frozen?, h]
theorem Row.set (h : Row k t w g xs) (i x : Nat) : Row k t (w.setCell ⟨g, i, none⟩ (.int k (x : Int))) g (xs.set i x) := by
  unfold Row at h ⊢
  simp [World.setCell, Array.getElem?_modify, h, rowOf_set]
theorem Row.drewN (h : Row k t w g xs) (n : Nat) : Row k t (w.drewN n) g xs := h
theorem Row.alloc (h : Row k t w g xs) (o : Obj) : Row k t (w.alloc o) g xs := (Below.heap_alloc w o g h.lt).trans h
theorem Row.far (h : Row k t w g xs) {p : Addr} (hp : g ≠ p.block) (u : Value) : Row k t (w.setCell p u) g xs := (Below.heap_setCell w p u g hp).trans h
theorem Row.up (h : Row k t w g xs) (hb : Up w w') : Row k t w' g xs := (hb.block g h.lt).trans h
theorem Row.grown {row : Option Nat} (h : Row k t w g xs) (hb : w.grownBy w' row) (hg : some g ≠ row) : Row k t w' g xs := (hb.block g h.lt hg).trans h
theorem Row.new (w : World) (xs : List Nat) : Row k t (w.alloc (.cells (rowOf k xs) t)) w.heap.size xs := heap_alloc_new w _
end

/-- An address (nil for an empty list) at which the list lies. -/
def Rd (k : IntKind) (w : World) (A : Option Addr) (ds : List Nat) : Prop :=
  ds ≠ [] → ∃ b off, A = some ⟨b, off, none⟩ ∧ b < w.heap.size ∧ ∀ i (h : i < ds.length), w.cell? ⟨b, off + i, none⟩ = some (.int k (ds[i] : Nat))
/-- A slice that reads as the list. -/
def Sl (k : IntKind) (w : World) (v : Value) (ds : List Nat) : Prop := ∃ A c, v = .slice A ds.length c ∧ ds.length ≤ c ∧ c ≤ maxLen ∧ Rd k w A ds

section
variable {k : IntKind} {t : TypeId} {w w' : World} {A : Option Addr} {ds : List Nat} {v : Value}
theorem Rd.nil : Rd k w A [] := fun h => absurd rfl h
theorem Rd.keep (h : Rd k w A ds) (hs : w.heap.size ≤ w'.heap.size) (hk : ∀ b o, b < w.heap.size → w'.cell? ⟨b, o, none⟩ = w.cell? ⟨b, o, none⟩) : Rd k w' A ds := fun hn => by
  obtain ⟨b, off, hA, hb, hc⟩ := h hn
  exact ⟨b, off, hA, Nat.lt_of_lt_of_le hb hs, fun i hi => (hk b _ hb).trans (hc i hi)⟩
theorem Rd.up (h : Rd k w A ds) (hb : Up w w') : Rd k w' A ds := h.keep hb.size hb.cells.1
theorem Rd.drewN (h : Rd k w A ds) (n : Nat) : Rd k (w.drewN n) A ds := h
theorem Rd.at_ (h : Rd k w A ds) {i : Nat} (hi : i < ds.length) : ∃ b off, A = some ⟨b, off, none⟩ ∧ b < w.heap.size ∧ w.cell? ⟨b, off + i, none⟩ = some (.int k (ds[i] : Nat)) := by
  obtain ⟨b, off, hA, hb, hc⟩ := h (by intro e; subst e; simp at hi)
  exact ⟨b, off, hA, hb, hc i hi⟩
theorem Rd.take (h : Rd k w A ds) (n : Nat) : Rd k w A (ds.take n) := fun hn => by
  obtain ⟨b, off, hA, hb, hc⟩ := h (by intro e; subst e; simp at hn)
  exact ⟨b, off, hA, hb, fun i hi => by
    rw [List.length_take] at hi
    rw [hc i (by omega)]; simp⟩
theorem Rd.of_row {g : Nat} {xs : List Nat} (h : Row k t w g xs) (off : Nat) (n : Nat) : Rd k w (some ⟨g, off, none⟩) ((xs.drop off).take n) := fun _ =>
  ⟨g, off, rfl, h.lt, fun i hi => by
    simp only [List.length_take, List.length_drop] at hi
    rw [h.cell (by omega)]; simp⟩
theorem Rd.of_row0 {g : Nat} {xs : List Nat} (h : Row k t w g xs) : Rd k w (some ⟨g, 0, none⟩) xs := by
  have := Rd.of_row h 0 xs.length; simpa using this
theorem Sl.up (h : Sl k w v ds) (hb : Up w w') : Sl k w' v ds := by
  obtain ⟨A, c, hv, h1, h2, h3⟩ := h; exact ⟨A, c, hv, h1, h2, h3.up hb⟩
theorem Sl.drewN (h : Sl k w v ds) (n : Nat) : Sl k (w.drewN n) v ds := h
theorem Sl.len (h : Sl k w v ds) : ds.length ≤ 9223372036854775807 := by
  obtain ⟨A, c, hv, h1, h2, h3⟩ := h; unfold maxLen at h2; omega
end


/-- The slice does not lie in block g. -/
def Away (A : Option Addr) (g : Nat) : Prop := ∀ b off, A = some ⟨b, off, none⟩ → b ≠ g
section
variable {k : IntKind} {t : TypeId} {w w' : World} {A : Option Addr} {ds : List Nat} {v : Value} {g : Nat}
theorem Rd.grown (h : Rd k w A ds) (hg : w.grownBy w' (some g)) (ha : Away A g) : Rd k w' A ds := fun hn => by
  obtain ⟨b, off, hA, hb, hc⟩ := h hn
  refine ⟨b, off, hA, Nat.lt_of_lt_of_le hb hg.size, fun i hi => (World.cell?_of_block (w := w) (hg.block b hb ?_)).trans (hc i hi)⟩
  have := ha b off hA
  intro e; cases e; exact this rfl
theorem grown_set (h : w.grownBy w' (some g)) (i : Nat) (u : Value) : w.grownBy (w'.setCell ⟨g, i, none⟩ u) (some g) :=
  ⟨h.os, h.tape, h.output, by simpa [World.setCell] using h.size, fun j hj hne => (Below.heap_setCell w' ⟨g, i, none⟩ u j (by
    rintro rfl; exact hne rfl)).trans (h.block j hj hne)⟩
theorem grown_trans {a b c : World} {row : Option Nat} (h : a.grownBy b row) (h' : b.grownBy c row) : a.grownBy c row :=
  ⟨h'.os.trans h.os, h'.tape.trans h.tape, h'.output.trans h.output, Nat.le_trans h.size h'.size, fun j hj hne => (h'.block j (Nat.lt_of_lt_of_le hj h.size) hne).trans (h.block j hj hne)⟩
theorem Up.of_grown (h : w.grownBy w' (some g)) (hg : w.heap.size ≤ g) : Up w w' :=
  ⟨h.os, h.tape, h.output, h.size, fun j hj => h.block j hj (by intro e; cases e; omega)⟩
theorem Up.grown {w0 : World} (h0 : Up w0 w) (h : w.grownBy w' (some g)) (hg : w0.heap.size ≤ g) : Up w0 w' :=
  Below.grown h0 h h0.size (by intro k hk; cases hk; exact hg)
theorem grown_up (h : Up w w') (row : Option Nat) : w.grownBy w' row := ⟨h.os, h.tape, h.output, h.size, fun j hj _ => h.block j hj⟩
theorem Away.of_lt (h : Rd k w A ds) (hn : ds ≠ []) (hg : w.heap.size ≤ g) : Away A g := by
  obtain ⟨b, off, hA, hb, _⟩ := h hn
  intro b' off' e; rw [hA] at e; cases e; omega
end

/-- The number of digits in base 2^32. -/
abbrev B32 : Nat := 4294967296
abbrev B30 : Nat := 1073741824
/-- A slice of uint32 that holds the digits of n. -/
def Dv (w : World) (v : Value) (n : Nat) : Prop := Sl .u32 w v (digs 4294967296 n)
/-- A slice of ints that holds the digits of n in base 2^30. -/
def Ev (w : World) (v : Value) (n : Nat) : Prop := Sl .i64 w v (digs 1073741824 n)

theorem info_u32 : (Tryd.prog.info? 102).map (fun i => (i.zero, i.size, i.bytes)) = some (some (.int .u32 0), 1, 4) := by kernel_rfl
theorem info_i64 : (Tryd.prog.info? 3).map (fun i => (i.zero, i.size, i.bytes)) = some (some (.int .i64 0), 1, 8) := by kernel_rfl
theorem made_row (k : IntKind) (n : Nat) : madeCells (Value.int k 0).cells n = rowOf k (zeroL n) := by
  unfold zeroL
  apply Array.ext_getElem?
  intro i
  rw [rowOf_get]
  by_cases h : i < n
  · simp [madeCells, Value.cells, h, Nat.mod_one]
  · simp [madeCells, Value.cells, h]
theorem mk32 (n : Nat) (hn : n ≤ 4294967296) (w : World) : (Instr.makeSlice 47 (.int .i64 (n : Int)) (.int .i64 (n : Int))).run Tryd.prog w =
    .ok (.slice (some ⟨w.heap.size, 0, none⟩) n n) (w.alloc (.cells (rowOf .u32 (zeroL n)) 102)) := by
  obtain ⟨i0, hi, hz0, hz1, hz2⟩ := info_parts info_u32
  have h := run_make (P := Tryd.prog) w 47 102 i0 (.int .u32 0) Tryd.underlying47 hi hz0 .i64 .i64 n n (by omega) (by omega) (by rw [hz2]; omega) (by omega)
  rw [h, hz1]; simp only [Int.toNat_natCast, Nat.mul_one, made_row]

/-- 'copy' of a list onto a row that is known whole. -/
theorem wpList_copy_row {P : Program} {w : World} {ops : Array Oper} {rest : List Oper} {o : Oper} {a : Act} {Q : Exit → Act → World → Prop} (hgd : o.guard = none) (d s : Operand) (dT sT : TypeId)
    (ho : o.op = .call { callee := .builtin .copy, args := #[d, s], argTypes := #[dT, sT] }) (elem : TypeId) (hu : P.underlying dT = some (.slice elem)) (hsz : (P.info? elem).map (·.size) = some 1)
    (k : IntKind) (t : TypeId) (g off dLen dCap : Nat) (A dp : Option Addr) (sCap : Nat) (xs ds : List Nat) (hd : a.eval d = .slice dp dLen dCap) (hdp : ds ≠ [] → dp = some ⟨g, off, none⟩) (hs : a.eval s = .slice A ds.length sCap)
    (hrow : Row k t w g xs) (hr : Rd k w A ds) (hle : ds.length ≤ dLen) (hfit : off + ds.length ≤ xs.length)
    (h : ∀ w', Row k t w' g (xs.take off ++ (ds ++ xs.drop (off + ds.length))) → w.grownBy w' (some g) → wpList P ops Q rest (a.put o.dst (goInt ds.length)) w') :
    wpList P ops Q (o :: rest) a w := by
  by_cases h0 : ds = []
  · subst h0
    refine wpList_copy_nothing hgd d s dT sT ho elem hu hsz _ _ _ _ _ _ hd hs (Nat.zero_min _) ?_
    exact h w (by simpa using hrow) (World.grownBy.refl w _)
  · obtain ⟨b, o2, rfl, hb, hc⟩ := hr h0
    rw [hdp h0] at hd
    have hlen : (ds.map fun d : Nat => Value.int k (d : Int)).length = ds.length := List.length_map _
    refine wpList_copy_own hgd d s dT sT ho elem hu hsz g off dLen dCap _ _ _ hd hs (rowOf k xs) t hrow (ds.map fun d : Nat => Value.int k (d : Int)) (by rw [hlen]; exact (Nat.min_eq_left hle).symm) ?_ (by rw [hlen]; simpa [rowOf] using hfit) ?_ ?_
    · intro j v hj
      rw [List.getElem?_map] at hj
      by_cases hjl : j < ds.length
      · rw [List.getElem?_eq_getElem hjl] at hj
        simp at hj
        rw [← hj, ← hc j hjl]
        by_cases hj0 : j = 0 <;> simp [Addr.add, hj0]
      · rw [List.getElem?_eq_none (by omega)] at hj; simp at hj
    · intro v hv
      obtain ⟨x, _, rfl⟩ := List.mem_map.1 hv
      rfl
    · rw [hlen]
      refine h _ ?_ ?_
      · have := setRow_heap w g (rowOf k xs) (rowOf k (xs.take off ++ (ds ++ xs.drop (off + ds.length)))) t (0, 0) hrow
        unfold Row
        rw [← this]
        congr 2
        simp [rowOf, List.map_take, List.map_drop]
      · exact ⟨rfl, rfl, rfl, by simp [World.setRow], fun j hj hne => setRow_other w g j _ (by intro e; subst e; exact hne rfl)⟩
theorem size_u32 : (Tryd.prog.info? 102).map (·.size) = some 1 := by kernel_rfl
theorem size_i64 : (Tryd.prog.info? 3).map (·.size) = some 1 := by kernel_rfl

/-- Block g is a row of the program's own that begins with the digits of m; a slice of it is '.slice (some ⟨g, 0, none⟩) (digs m).length c'. -/
def Own (w : World) (g c m : Nat) : Prop :=
  ∃ xs, Row .u32 102 w g xs ∧ Ok 4294967296 xs ∧ (digs 4294967296 m).length ≤ xs.length ∧ xs.take (digs 4294967296 m).length = digs 4294967296 m ∧ (digs 4294967296 m).length ≤ c ∧ c ≤ maxLen
theorem Own.dv {w : World} {g c m : Nat} (h : Own w g c m) : Dv w (.slice (some ⟨g, 0, none⟩) (digs 4294967296 m).length c) m := by
  obtain ⟨xs, h1, h2, h3, h4, h5, h6⟩ := h
  exact ⟨_, _, rfl, h5, h6, h4 ▸ (Rd.of_row0 h1).take _⟩
theorem Own.lt {w : World} {g c m : Nat} (h : Own w g c m) : g < w.heap.size := by
  obtain ⟨xs, h1, _⟩ := h; exact h1.lt
theorem Own.grown {w w' : World} {g c m : Nat} {row : Option Nat} (h : Own w g c m) (hg : w.grownBy w' row) (hne : some g ≠ row) : Own w' g c m := by
  obtain ⟨xs, h1, h2⟩ := h; exact ⟨xs, h1.grown hg hne, h2⟩
theorem Own.up {w w' : World} {g c m : Nat} (h : Own w g c m) (hg : Up w w') : Own w' g c m := by
  obtain ⟨xs, h1, h2⟩ := h; exact ⟨xs, h1.up hg, h2⟩
theorem Own.drewN {w : World} {g c m : Nat} (h : Own w g c m) (n : Nat) : Own (w.drewN n) g c m := h
theorem or_u64 (a b k : Nat) (h : a < 2 ^ k) (hb : a + b * 2 ^ k < 18446744073709551616) : bits .or .u64 (a : Int) ((b : Int) * 2 ^ k) = ((a + b * 2 ^ k : Nat) : Int) := by
  have e : ((b : Int) * 2 ^ k) = ((b * 2 ^ k : Nat) : Int) := by rw [Int.natCast_mul, Int.natCast_pow]; rfl
  rw [e, u64_or_nat _ _ (by omega) (by omega), or_shift a b k h]
end Go.Proofs.YtahmjnjammcifaaDoor

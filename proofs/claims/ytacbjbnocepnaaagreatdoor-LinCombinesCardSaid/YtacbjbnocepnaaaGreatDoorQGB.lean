/- The predicates with which these contracts speak of memory, and the contracts of the first functions on digits. -/
import Derived.Test.YtacbjbnocepnaaaGreatDoorProg
import Derived.Test.YtacbjbnocepnaaaGreatDoorQGA
import Derived.WalkKit
import Derived.Handy
import Derived.Deep.QuietTactic
import Derived.BigQuiet
import Derived.Lib.Hide
import Derived.Deep.DeepCutAuto
import Derived.Laws.Rows
import Derived.Laws.CopyOwn
namespace Go.Proofs.YtacbjbnocepnaaaGreatDoor
open Go.RowKit Fm
theorem ret_int {k : IntKind} {a b : Int} (h : a = b) : Ending.returned (.int k a) = .returned (.int k b) := by rw [h]
abbrev Up (w w' : World) : Prop := Below w.heap.size w w'
theorem Up.refl (w : World) : Up w w := Below.refl _ _
theorem Up.trans {a b c : World} (h : Up a b) (k : Up b c) : Up a c := Below.trans h (Below.mono k h.size)
theorem Up.drewN (w : World) (n : Nat) : Up w (w.drewN n) := ⟨rfl, rfl, rfl, Nat.le_refl _, fun _ _ => rfl⟩
theorem Up.drew (w : World) : Up w w.drew := ⟨rfl, rfl, rfl, Nat.le_refl _, fun _ _ => rfl⟩
theorem Up.alloc (w : World) (o : Obj) : Up w (w.alloc o) := (Below.refl _ _).alloc (Nat.le_refl _) o
theorem Up.cells {W w1 : World} (hb : Up W w1) : (∀ b o, b < W.heap.size → w1.cell? ⟨b, o, none⟩ = W.cell? ⟨b, o, none⟩) ∧ (∀ b o, b < W.heap.size → w1.frozen? ⟨b, o, none⟩ = W.frozen? ⟨b, o, none⟩) :=
  ⟨fun b o h => Below.cell hb (p := ⟨b, o, none⟩) h, fun b o h => Below.frozen hb (p := ⟨b, o, none⟩) h⟩
def rowOf (k : IntKind) (xs : List Nat) : Array Value := (xs.map fun d : Nat => Value.int k (d : Int)).toArray
theorem rowOf_get (k : IntKind) (xs : List Nat) (i : Nat) : (rowOf k xs)[i]? = (xs[i]?).map fun d : Nat => Value.int k (d : Int) := by simp [rowOf]
theorem rowOf_set (k : IntKind) (xs : List Nat) (i x : Nat) : (rowOf k xs).setIfInBounds i (.int k (x : Int)) = rowOf k (xs.set i x) := by
  simp [rowOf, List.map_set]
def Row (k : IntKind) (t : TypeId) (w : World) (g : Nat) (xs : List Nat) : Prop := w.heap[g]? = some (.cells (rowOf k xs) t (0, 0))
section
variable {k : IntKind} {t : TypeId} {w w' : World} {g : Nat} {xs : List Nat}
theorem Row.lt (h : Row k t w g xs) : g < w.heap.size := by
  rcases Nat.lt_or_ge g w.heap.size with hlt | hge
  · exact hlt
  · unfold Row at h; rw [Array.getElem?_eq_none hge] at h; cases h
theorem Row.cell (h : Row k t w g xs) {i : Nat} (hi : i < xs.length) : w.cell? ⟨g, i, none⟩ = some (.int k (xs[i] : Nat)) := by
  rw [cell_of_row w g i _ t (0, 0) h, rowOf_get, List.getElem?_eq_getElem hi]; rfl
theorem Row.frozen (h : Row k t w g xs) (i : Nat) : w.frozen? ⟨g, i, none⟩ = false := by
  unfold Row at h; simp [World.frozen?, h]
theorem Row.set (h : Row k t w g xs) (i x : Nat) : Row k t (w.setCell ⟨g, i, none⟩ (.int k (x : Int))) g (xs.set i x) := by
  unfold Row at h ⊢
  simp [World.setCell, Array.getElem?_modify, h, rowOf_set]
theorem Row.drewN (h : Row k t w g xs) (n : Nat) : Row k t (w.drewN n) g xs := h
theorem Row.alloc (h : Row k t w g xs) (o : Obj) : Row k t (w.alloc o) g xs := (Below.heap_alloc w o g h.lt).trans h
theorem Row.far (h : Row k t w g xs) {p : Addr} (hp : g ≠ p.block) (u : Value) : Row k t (w.setCell p u) g xs := (Below.heap_setCell w p u g hp).trans h
theorem Row.up (h : Row k t w g xs) (hb : Up w w') : Row k t w' g xs := (hb.block g h.lt).trans h
theorem Row.grown {row : Option Nat} (h : Row k t w g xs) (hb : w.grownBy w' row) (hg : some g ≠ row) : Row k t w' g xs := (hb.block g h.lt hg).trans h
theorem Row.new (w : World) (xs : List Nat) : Row k t (w.alloc (.cells (rowOf k xs) t)) w.heap.size xs := heap_alloc_new w _
end
def Rd (k : IntKind) (w : World) (A : Option Addr) (ds : List Nat) : Prop :=
  ds ≠ [] → ∃ b off, A = some ⟨b, off, none⟩ ∧ b < w.heap.size ∧ ∀ i (h : i < ds.length), w.cell? ⟨b, off + i, none⟩ = some (.int k (ds[i] : Nat))
def Sl (k : IntKind) (w : World) (v : Value) (ds : List Nat) : Prop := ∃ A c, v = .slice A ds.length c ∧ ds.length ≤ c ∧ c ≤ maxLen ∧ Rd k w A ds
section
variable {k : IntKind} {t : TypeId} {w w' : World} {A : Option Addr} {ds : List Nat} {v : Value}
theorem Rd.nil : Rd k w A [] := fun h => absurd rfl h
theorem Rd.keep (h : Rd k w A ds) (hs : w.heap.size ≤ w'.heap.size) (hk : ∀ b o, b < w.heap.size → w'.cell? ⟨b, o, none⟩ = w.cell? ⟨b, o, none⟩) : Rd k w' A ds := fun hn => by
  obtain ⟨b, off, hA, hb, hc⟩ := h hn
  exact ⟨b, off, hA, Nat.lt_of_lt_of_le hb hs, fun i hi => (hk b _ hb).trans (hc i hi)⟩
theorem Rd.up (h : Rd k w A ds) (hb : Up w w') : Rd k w' A ds := h.keep hb.size hb.cells.1
theorem Rd.drewN (h : Rd k w A ds) (n : Nat) : Rd k (w.drewN n) A ds := h
theorem Rd.at_ (h : Rd k w A ds) {i : Nat} (hi : i < ds.length) : ∃ b off, A = some ⟨b, off, none⟩ ∧ b < w.heap.size ∧ w.cell? ⟨b, off + i, none⟩ = some (.int k (ds[i] : Nat)) := by
  obtain ⟨b, off, hA, hb, hc⟩ := h (by intro e; subst e; simp at hi)
  exact ⟨b, off, hA, hb, hc i hi⟩
theorem Rd.take (h : Rd k w A ds) (n : Nat) : Rd k w A (ds.take n) := fun hn => by
  obtain ⟨b, off, hA, hb, hc⟩ := h (by intro e; subst e; simp at hn)
  exact ⟨b, off, hA, hb, fun i hi => by
    rw [List.length_take] at hi
    rw [hc i (by omega)]; simp⟩
theorem Rd.of_row {g : Nat} {xs : List Nat} (h : Row k t w g xs) (off : Nat) (n : Nat) : Rd k w (some ⟨g, off, none⟩) ((xs.drop off).take n) := fun _ =>
  ⟨g, off, rfl, h.lt, fun i hi => by
    simp only [List.length_take, List.length_drop] at hi
    rw [h.cell (by omega)]; simp⟩
theorem Rd.of_row0 {g : Nat} {xs : List Nat} (h : Row k t w g xs) : Rd k w (some ⟨g, 0, none⟩) xs := by
  have := Rd.of_row h 0 xs.length; simpa using this
theorem Sl.up (h : Sl k w v ds) (hb : Up w w') : Sl k w' v ds := by
  obtain ⟨A, c, hv, h1, h2, h3⟩ := h; exact ⟨A, c, hv, h1, h2, h3.up hb⟩
theorem Sl.drewN (h : Sl k w v ds) (n : Nat) : Sl k (w.drewN n) v ds := h
theorem Sl.len (h : Sl k w v ds) : ds.length ≤ 9223372036854775807 := by
  obtain ⟨A, c, hv, h1, h2, h3⟩ := h; unfold maxLen at h2; omega
end
def Away (A : Option Addr) (g : Nat) : Prop := ∀ b off, A = some ⟨b, off, none⟩ → b ≠ g
section
variable {k : IntKind} {t : TypeId} {w w' : World} {A : Option Addr} {ds : List Nat} {v : Value} {g : Nat}
theorem Rd.grown (h : Rd k w A ds) (hg : w.grownBy w' (some g)) (ha : Away A g) : Rd k w' A ds := fun hn => by
  obtain ⟨b, off, hA, hb, hc⟩ := h hn
  refine ⟨b, off, hA, Nat.lt_of_lt_of_le hb hg.size, fun i hi => (World.cell?_of_block (w := w) (hg.block b hb ?_)).trans (hc i hi)⟩
  have := ha b off hA
  intro e; cases e; exact this rfl
theorem grown_set (h : w.grownBy w' (some g)) (i : Nat) (u : Value) : w.grownBy (w'.setCell ⟨g, i, none⟩ u) (some g) :=
  ⟨h.os, h.tape, h.output, by simpa [World.setCell] using h.size, fun j hj hne => (Below.heap_setCell w' ⟨g, i, none⟩ u j (by
    rintro rfl; exact hne rfl)).trans (h.block j hj hne)⟩
theorem grown_trans {a b c : World} {row : Option Nat} (h : a.grownBy b row) (h' : b.grownBy c row) : a.grownBy c row :=
  ⟨h'.os.trans h.os, h'.tape.trans h.tape, h'.output.trans h.output, Nat.le_trans h.size h'.size, fun j hj hne => (h'.block j (Nat.lt_of_lt_of_le hj h.size) hne).trans (h.block j hj hne)⟩
theorem Up.grown {w0 : World} (h0 : Up w0 w) (h : w.grownBy w' (some g)) (hg : w0.heap.size ≤ g) : Up w0 w' :=
  Below.grown h0 h h0.size (by intro k hk; cases hk; exact hg)
theorem grown_up (h : Up w w') (row : Option Nat) : w.grownBy w' row := ⟨h.os, h.tape, h.output, h.size, fun j hj _ => h.block j hj⟩
theorem Away.of_lt (h : Rd k w A ds) (hn : ds ≠ []) (hg : w.heap.size ≤ g) : Away A g := by
  obtain ⟨b, off, hA, hb, _⟩ := h hn
  intro b' off' e; rw [hA] at e; cases e; omega
end
def Dv (w : World) (v : Value) (n : Nat) : Prop := Sl .u32 w v (digs 4294967296 n)
def Ev (w : World) (v : Value) (n : Nat) : Prop := Sl .i64 w v (digs 1073741824 n)
theorem info_u32 : (Tryz.prog.info? 191).map (fun i => (i.zero, i.size, i.bytes)) = some (some (.int .u32 0), 1, 4) := by kernel_rfl
theorem info_i64 : (Tryz.prog.info? 3).map (fun i => (i.zero, i.size, i.bytes)) = some (some (.int .i64 0), 1, 8) := by kernel_rfl
theorem made_row (k : IntKind) (n : Nat) : madeCells (Value.int k 0).cells n = rowOf k (zeroL n) := by
  unfold zeroL
  apply Array.ext_getElem?
  intro i
  rw [rowOf_get]
  by_cases h : i < n
  · simp [madeCells, Value.cells, h, Nat.mod_one]
  · simp [madeCells, Value.cells, h]
theorem mk32 (n : Nat) (hn : n ≤ 4294967296) (w : World) : (Instr.makeSlice 106 (.int .i64 (n : Int)) (.int .i64 (n : Int))).run Tryz.prog w =
    .ok (.slice (some ⟨w.heap.size, 0, none⟩) n n) (w.alloc (.cells (rowOf .u32 (zeroL n)) 191)) := by
  obtain ⟨i0, hi, hz0, hz1, hz2⟩ := info_parts info_u32
  have h := run_make (P := Tryz.prog) w 106 191 i0 (.int .u32 0) Tryz.underlying106 hi hz0 .i64 .i64 n n (by omega) (by omega) (by rw [hz2]; omega) (by omega)
  rw [h, hz1]; simp only [Int.toNat_natCast, Nat.mul_one, made_row]
theorem wpList_copy_row {P : Program} {w : World} {ops : Array Oper} {rest : List Oper} {o : Oper} {a : Act} {Q : Exit → Act → World → Prop} (hgd : o.guard = none) (d s : Operand) (dT sT : TypeId)
    (ho : o.op = .call { callee := .builtin .copy, args := #[d, s], argTypes := #[dT, sT] }) (elem : TypeId) (hu : P.underlying dT = some (.slice elem)) (hsz : (P.info? elem).map (·.size) = some 1)
    (k : IntKind) (t : TypeId) (g off dLen dCap : Nat) (A dp : Option Addr) (sCap : Nat) (xs ds : List Nat) (hd : a.eval d = .slice dp dLen dCap) (hdp : ds ≠ [] → dp = some ⟨g, off, none⟩) (hs : a.eval s = .slice A ds.length sCap)
    (hrow : Row k t w g xs) (hr : Rd k w A ds) (hle : ds.length ≤ dLen) (hfit : off + ds.length ≤ xs.length)
    (h : ∀ w', Row k t w' g (xs.take off ++ (ds ++ xs.drop (off + ds.length))) → w.grownBy w' (some g) → wpList P ops Q rest (a.put o.dst (goInt ds.length)) w') :
    wpList P ops Q (o :: rest) a w := by
  by_cases h0 : ds = []
  · subst h0
    refine wpList_copy_nothing hgd d s dT sT ho elem hu hsz _ _ _ _ _ _ hd hs (Nat.zero_min _) ?_
    exact h w (by simpa using hrow) (World.grownBy.refl w _)
  · obtain ⟨b, o2, rfl, hb, hc⟩ := hr h0
    rw [hdp h0] at hd
    have hlen : (ds.map fun d : Nat => Value.int k (d : Int)).length = ds.length := List.length_map _
    refine wpList_copy_own hgd d s dT sT ho elem hu hsz g off dLen dCap _ _ _ hd hs (rowOf k xs) t hrow (ds.map fun d : Nat => Value.int k (d : Int)) (by rw [hlen]; exact (Nat.min_eq_left hle).symm) ?_ (by rw [hlen]; simpa [rowOf] using hfit) ?_ ?_
    · intro j v hj
      rw [List.getElem?_map] at hj
      by_cases hjl : j < ds.length
      · rw [List.getElem?_eq_getElem hjl] at hj
        simp at hj
        rw [← hj, ← hc j hjl]
        by_cases hj0 : j = 0 <;> simp [Addr.add, hj0]
      · rw [List.getElem?_eq_none (by omega)] at hj; simp at hj
    · intro v hv
      obtain ⟨x, _, rfl⟩ := List.mem_map.1 hv
      rfl
    · rw [hlen]
      refine h _ ?_ ?_
      · have := setRow_heap w g (rowOf k xs) (rowOf k (xs.take off ++ (ds ++ xs.drop (off + ds.length)))) t (0, 0) hrow
        unfold Row
        rw [← this]
        congr 2
        simp [rowOf, List.map_take, List.map_drop]
      · exact ⟨rfl, rfl, rfl, by simp [World.setRow], fun j hj hne => setRow_other w g j _ (by intro e; subst e; exact hne rfl)⟩
theorem size_u32 : (Tryz.prog.info? 191).map (·.size) = some 1 := by kernel_rfl
theorem size_i64 : (Tryz.prog.info? 3).map (·.size) = some 1 := by kernel_rfl
def Own (w : World) (g c m : Nat) : Prop :=
  ∃ xs, Row .u32 191 w g xs ∧ Ok 4294967296 xs ∧ (digs 4294967296 m).length ≤ xs.length ∧ xs.take (digs 4294967296 m).length = digs 4294967296 m ∧ (digs 4294967296 m).length ≤ c ∧ c ≤ maxLen
theorem Own.dv {w : World} {g c m : Nat} (h : Own w g c m) : Dv w (.slice (some ⟨g, 0, none⟩) (digs 4294967296 m).length c) m := by
  obtain ⟨xs, h1, h2, h3, h4, h5, h6⟩ := h
  exact ⟨_, _, rfl, h5, h6, h4 ▸ (Rd.of_row0 h1).take _⟩
theorem Own.lt {w : World} {g c m : Nat} (h : Own w g c m) : g < w.heap.size := by
  obtain ⟨xs, h1, _⟩ := h; exact h1.lt
theorem Own.grown {w w' : World} {g c m : Nat} {row : Option Nat} (h : Own w g c m) (hg : w.grownBy w' row) (hne : some g ≠ row) : Own w' g c m := by
  obtain ⟨xs, h1, h2⟩ := h; exact ⟨xs, h1.grown hg hne, h2⟩
theorem Own.up {w w' : World} {g c m : Nat} (h : Own w g c m) (hg : Up w w') : Own w' g c m := by
  obtain ⟨xs, h1, h2⟩ := h; exact ⟨xs, h1.up hg, h2⟩
theorem Own.drewN {w : World} {g c m : Nat} (h : Own w g c m) (n : Nat) : Own (w.drewN n) g c m := h
theorem or_u64 (a b k : Nat) (h : a < 2 ^ k) (hb : a + b * 2 ^ k < 18446744073709551616) : bits .or .u64 (a : Int) ((b : Int) * 2 ^ k) = ((a + b * 2 ^ k : Nat) : Int) := by
  have e : ((b : Int) * 2 ^ k) = ((b * 2 ^ k : Nat) : Int) := by rw [Int.natCast_mul, Int.natCast_pow]; rfl
  rw [e, u64_or_nat _ _ (by omega) (by omega), or_shift a b k h]
end Go.Proofs.YtacbjbnocepnaaaGreatDoor
namespace Go.Proofs.YtacbjbnocepnaaaGreatDoor
open Go.RowKit Fm
theorem trim_any (A : Option Addr) (c : Nat) (ds : List Nat) (w : World) (hc : ds.length ≤ c) (hcm : c ≤ maxLen) (hr : Rd .u32 w A ds) (hok : Ok 4294967296 ds) :
    Calls Tryz.prog 153 #[.slice A ds.length c] w fun e w' => e = .returned (.slice A (digs 4294967296 (val 4294967296 ds)).length c) ∧ w = w' := by
  unfold maxLen at hcm
  rw [← cut_eq_digs (by omega) hok]
  go_enter Tryz.func153, Tryz.ntmps153
  go_wp2
  go_loop [0] (fun v => ∃ k : Nat, k ≤ ds.length ∧ v = .slice A k c ∧ Hid (cut (ds.take k) = cut ds)) (fun v => match v with | .slice _ n _ => n | _ => 0)
  case atStart => exact ⟨ds.length, Nat.le_refl _, rfl, by unfold Hid; rw [List.take_length]⟩
  case round =>
    obtain ⟨k, hk, rfl, hcut⟩ := hrel
    by_cases h0 : k = 0
    · subst h0
      go_wp2
      go_ret
      exact ⟨by rw [← cut_stop hk hcut.out (.inl rfl)]; rfl, rfl⟩
    · obtain ⟨j, rfl⟩ : ∃ j, k = j + 1 := ⟨k - 1, by omega⟩
      obtain ⟨b, off, rfl, hb, hcell⟩ := hr.at_ (i := j) (by omega)
      by_cases hz : ds[j] = 0
      · have hz' : ((ds[j] : Nat) : Int) = 0 := by rw [hz]; rfl
        go_wp2
        exact ⟨⟨j, by omega, rfl, by unfold Hid; rw [← hcut.out]; exact (cut_take_zero (by omega) hz).symm⟩, by simp⟩
      · have hf := cut_stop hk hcut.out (.inr ⟨j, by omega, rfl, hz⟩)
        have HF := Lib.hid hf
        clear hf
        go_wp2
        go_ret
        exact ⟨by rw [← HF.out]; rfl, rfl⟩
theorem ret_pair {k k' : IntKind} {a b c d : Int} (h : a = b) (h' : c = d) : Ending.returned (.tuple #[.int k a, .int k' c]) = .returned (.tuple #[.int k b, .int k' d]) := by rw [h, h']
theorem natural_any (n : Nat) (w : World) (hn : n < 18446744073709551616) :
    Calls Tryz.prog 138 #[.int .u64 n] w fun e w' => ∃ v, e = .returned v ∧ Dv w' v n ∧ Up w w' := by
  have hrow : rowOf .u32 [n % 4294967296, n / 4294967296] = #[Value.int .u32 ((n : Int) % 4294967296), Value.int .u32 ((n : Int) / 4294967296)] := by simp [rowOf]
  have Hrow := Lib.hid hrow
  clear hrow
  go_enter Tryz.func138, Tryz.ntmps138
  go_wp2_with fail
  rw [← Hrow.out]
  have hr := Rd.of_row0 (Row.new (k := .u32) (t := 191) w [n % 4294967296, n / 4294967296])
  have hok : Ok 4294967296 [n % 4294967296, n / 4294967296] := Ok.cons (by omega) (Ok.cons (by omega) Ok.nil)
  have hv : val 4294967296 [n % 4294967296, n / 4294967296] = n := by simp [val]; omega
  refine (trim_any _ 2 [n % 4294967296, n / 4294967296] _ (Nat.le_refl _) (by unfold maxLen; omega) hr hok).mono ?_
  rintro e w' ⟨rfl, rfl⟩
  have hd := digs_take (B := 4294967296) (by omega) hok
  rw [hv] at hd ⊢
  go_wp2
  go_ret
  exact ⟨_, rfl, ⟨_, 2, rfl, hd.1, by unfold maxLen; omega, hd.2 ▸ hr.take _⟩, Up.alloc _ _⟩
theorem add32_any (x y c : Nat) (w : World) (hx : x < 4294967296) (hy : y < 4294967296) (hc : c ≤ 1) :
    Calls Tryz.prog 171 #[.int .u32 x, .int .u32 y, .int .u32 c] w fun e w' => e = .returned (.tuple #[.int .u32 ((x + y + c) % 4294967296 : Nat), .int .u32 ((x + y + c) / 4294967296 : Nat)]) ∧ w = w' := by
  go_enter Tryz.func171, Tryz.ntmps171
  go_wp2
  go_ret2
  exact ⟨ret_pair (by omega) (by omega), rfl⟩
def dif32 (x y c : Nat) : Nat := (x + 8589934592 - y - c) % 4294967296
def bor32 (x y c : Nat) : Nat := if x < y + c then 1 else 0
theorem bor_le (x y c : Nat) : bor32 x y c ≤ 1 := by unfold bor32; split <;> omega
theorem dif_lt (x y c : Nat) : dif32 x y c < 4294967296 := Nat.mod_lt _ (by omega)
theorem dif_eq {x y c : Nat} (hx : x < 4294967296) (hy : y < 4294967296) (hc : c ≤ 1) : x + 4294967296 * bor32 x y c = dif32 x y c + y + c := by
  unfold bor32 dif32; split <;> omega
theorem bits_u32 (op : BinOp) (f : BitVec 32 → BitVec 32 → BitVec 32) (a b : Int) (h : bits op .u32 a b = IntKind.u32.wrap ((f (BitVec.ofInt 32 a) (BitVec.ofInt 32 b)).toNat : Int)) : bits op .u32 a b = ((f (BitVec.ofInt 32 a) (BitVec.ofInt 32 b)).toNat : Int) := by
  rw [h]; exact IntWalk.u32_in _ ⟨by omega, by have := (f (BitVec.ofInt 32 a) (BitVec.ofInt 32 b)).isLt; omega⟩
theorem xor_u32 (a b : Int) : bits .xor .u32 a b = ((BitVec.ofInt 32 a ^^^ BitVec.ofInt 32 b).toNat : Int) := bits_u32 _ (· ^^^ ·) a b rfl
theorem and_u32 (a b : Int) : bits .and .u32 a b = ((BitVec.ofInt 32 a &&& BitVec.ofInt 32 b).toNat : Int) := bits_u32 _ (· &&& ·) a b rfl
theorem or_u32 (a b : Int) : bits .or .u32 a b = ((BitVec.ofInt 32 a ||| BitVec.ofInt 32 b).toNat : Int) := bits_u32 _ (· ||| ·) a b rfl
theorem ofInt_toNat (v : BitVec 32) : BitVec.ofInt 32 (v.toNat : Int) = v := by
  rw [BitVec.ofInt_natCast]; simp
theorem top_u32 (v : BitVec 32) : ((v.toNat : Nat) : Int) / 2147483648 = (if v.msb then 1 else 0 : Nat) := by
  rw [BitVec.msb_eq_decide]
  have := v.isLt
  by_cases h : 2 ^ (32 - 1) ≤ v.toNat
  · simp [h]; omega
  · simp [h]; omega
theorem msb_ofInt (n : Nat) (h : n < 4294967296) : (BitVec.ofInt 32 (n : Int)).msb = decide (2147483648 ≤ n) := by
  rw [BitVec.ofInt_natCast, BitVec.msb_eq_decide, BitVec.toNat_ofNat, Nat.mod_eq_of_lt h]
theorem bor_bits {x y c : Nat} (hx : x < 4294967296) (hy : y < 4294967296) (hc : c ≤ 1) :
    bits .or .u32 (bits .and .u32 (bits .xor .u32 IntKind.u32.max x) y) (bits .and .u32 (bits .xor .u32 IntKind.u32.max (bits .xor .u32 x y)) ((dif32 x y c : Nat) : Int)) / 2147483648 = (bor32 x y c : Nat) := by
  simp only [xor_u32, and_u32, or_u32, ofInt_toNat]
  rw [top_u32]
  simp only [BitVec.msb_or, BitVec.msb_and, BitVec.msb_xor]
  rw [msb_ofInt x hx, msb_ofInt y hy, msb_ofInt _ (dif_lt x y c)]
  have hm : (BitVec.ofInt 32 IntKind.u32.max).msb = true := by decide
  rw [hm]
  have h := dif_eq hx hy hc
  have hd := dif_lt x y c
  unfold bor32 at h ⊢
  by_cases h1 : 2147483648 ≤ x <;> by_cases h2 : 2147483648 ≤ y <;> by_cases h3 : 2147483648 ≤ dif32 x y c <;> by_cases h4 : x < y + c <;> simp [h1, h2, h3, h4] at h ⊢ <;> omega
theorem sub32_any (x y c : Nat) (w : World) (hx : x < 4294967296) (hy : y < 4294967296) (hc : c ≤ 1) :
    Calls Tryz.prog 170 #[.int .u32 x, .int .u32 y, .int .u32 c] w fun e w' => e = .returned (.tuple #[.int .u32 (dif32 x y c : Nat), .int .u32 (bor32 x y c : Nat)]) ∧ w = w' := by
  have hd : ((x : Int) - y - c) % 4294967296 = (dif32 x y c : Nat) := by unfold dif32; omega
  have HD := Lib.hid hd
  clear hd
  go_enter Tryz.func170, Tryz.ntmps170
  go_wp2
  go_ret2
  exact ⟨ret_pair HD.out (by rw [HD.out]; exact bor_bits hx hy hc), rfl⟩
theorem sign_any (n : Int) (w : World) :
    Calls Tryz.prog 134 #[.int .i64 n] w fun e w' => e = .returned (.int .i64 n.sign) ∧ w = w' := by
  rcases Int.lt_trichotomy n 0 with h | h | h
  · rw [Int.sign_eq_neg_one_of_neg h]
    go_enter Tryz.func134, Tryz.ntmps134
    go_wp2
    go_ret
    exact ⟨rfl, rfl⟩
  · subst h
    go_enter Tryz.func134, Tryz.ntmps134
    go_wp2
    go_ret
    exact ⟨rfl, rfl⟩
  · rw [Int.sign_eq_one_of_pos h]
    go_enter Tryz.func134, Tryz.ntmps134
    go_wp2
    go_ret
    exact ⟨rfl, rfl⟩
theorem trim_row (g c n : Nat) (xs : List Nat) (w : World) (hrow : Row .u32 191 w g xs) (hok : Ok 4294967296 xs) (hn : xs.length = n) (hc : n ≤ c) (hcm : c ≤ maxLen) :
    Calls Tryz.prog 153 #[.slice (some ⟨g, 0, none⟩) n c] w fun e w' => (e = .returned (.slice (some ⟨g, 0, none⟩) (digs 4294967296 (val 4294967296 xs)).length c) ∧ Dv w (.slice (some ⟨g, 0, none⟩) (digs 4294967296 (val 4294967296 xs)).length c) (val 4294967296 xs)) ∧ w = w' := by
  subst hn
  refine (trim_any (some ⟨g, 0, none⟩) c xs w hc hcm (Rd.of_row0 hrow) hok).mono ?_
  rintro e w' ⟨rfl, rfl⟩
  have hd := digs_take (B := 4294967296) (by omega) hok
  exact ⟨⟨rfl, _, _, rfl, Nat.le_trans hd.1 hc, hcm, hd.2 ▸ (Rd.of_row0 hrow).take _⟩, rfl⟩
end Go.Proofs.YtacbjbnocepnaaaGreatDoor
namespace Go.Proofs.YtacbjbnocepnaaaGreatDoor
open Go.RowKit Fm
def IncRel (w : World) (g off n : Nat) (xs es : List Nat) (k carry : Nat) (w' : World) : Prop :=
  ∃ zs, carry ≤ 1 ∧ Row .u32 191 w' g zs ∧ zs.length = xs.length ∧ Ok 4294967296 zs ∧ (∀ i, i < off ∨ off + k ≤ i → zs[i]? = xs[i]?) ∧
    val 4294967296 (seg zs off k) + 4294967296 ^ k * carry = val 4294967296 (seg xs off k) + val 4294967296 (es.take k) ∧ w.grownBy w' (some g) ∧ k ≤ n
def IncPost (w : World) (g off n : Nat) (xs es : List Nat) (e : Ending) (w' : World) : Prop := ∃ carry, e = .returned (.int .u32 ((carry : Nat) : Int)) ∧ IncRel w g off n xs es n carry w'
theorem IncRel.start {w : World} {g off n : Nat} {xs es : List Nat} (hrow : Row .u32 191 w g xs) (hok : Ok 4294967296 xs) : IncRel w g off n xs es 0 0 w :=
  ⟨xs, by omega, hrow, rfl, hok, fun _ _ => rfl, by simp [seg_zero, val], World.grownBy.refl w _, by omega⟩
theorem IncRel.step {w w' : World} {g off n k carry x : Nat} {xs es zs : List Nat} (hn : off + n ≤ xs.length) (hk : k < n) (hc : carry ≤ 1) (hrow : Row .u32 191 w' g zs) (hl : zs.length = xs.length) (hok : Ok 4294967296 zs)
    (hout : ∀ i, i < off ∨ off + k ≤ i → zs[i]? = xs[i]?) (hv : val 4294967296 (seg zs off k) + 4294967296 ^ k * carry = val 4294967296 (seg xs off k) + val 4294967296 (es.take k)) (hg : w.grownBy w' (some g))
    (y : Nat) (hy : y = zs[off + k]'(by omega)) (hx : x < 4294967296) (hes : val 4294967296 (es.take (k + 1)) = val 4294967296 (es.take k) + 4294967296 ^ k * x) :
    IncRel w g off n xs es (k + 1) ((y + x + carry) / 4294967296) (w'.setCell ⟨g, off + k, none⟩ (.int .u32 (((y + x + carry) % 4294967296 : Nat) : Int))) := by
  have hyb : y < 4294967296 := by rw [hy]; exact hok.get _
  refine ⟨zs.set (off + k) ((y + x + carry) % 4294967296), by omega, hrow.set _ _, by simp [hl], hok.set _ (Nat.mod_lt _ (by omega)), fun i hi => ?_, ?_, grown_set hg _ _, by omega⟩
  · rw [List.getElem?_set_ne (by omega)]; exact hout i (by omega)
  · have hlk : off + k < zs.length := by omega
    have hxs : y = xs[off + k]'(by omega) := by rw [hy]; exact getElem_of_get? (hout _ (.inr (Nat.le_refl _))) _ _
    rw [val_seg_succ _ (by simp; omega), seg_set _ (.inr (Nat.le_refl _)), val_seg_succ _ (by omega : off + k < xs.length), hes, ← hxs]
    simp only [List.getElem_set_self]
    have := Nat.mod_add_div (y + x + carry) 4294967296
    rw [Nat.pow_succ]
    generalize (y + x + carry) % 4294967296 = r at *
    generalize (y + x + carry) / 4294967296 = q at *
    generalize 4294967296 ^ k = P at *
    grind
theorem IncRel.leave {w w' : World} {g off n k : Nat} {xs es : List Nat} (hn : off + n ≤ xs.length) (hk : k ≤ n) (he : es.length ≤ k) (h : IncRel w g off n xs es k 0 w') : IncRel w g off n xs es n 0 w' := by
  obtain ⟨zs, h1, h2, h3, h4, h5, h6, h7, h8⟩ := h
  refine ⟨zs, h1, h2, h3, h4, fun i hi => h5 i (by omega), ?_, h7, Nat.le_refl _⟩
  have := val_seg_rest 4294967296 hk (by omega) hn (fun i hi hj => h5 i (.inr hi))
  rw [List.take_of_length_le he] at h6
  rw [List.take_of_length_le (by omega)]
  omega
set_option maxHeartbeats 400000 in
theorem increase_any (g off n c : Nat) (xs : List Nat) (A : Option Addr) (c2 : Nat) (es : List Nat) (w : World)
    (hrow : Row .u32 191 w g xs) (hn : off + n ≤ xs.length) (hnc : n ≤ c) (hc : c ≤ maxLen) (hok : Ok 4294967296 xs)
    (he : es.length ≤ n) (hr : Rd .u32 w A es) (ha : es ≠ [] → Away A g) (hoke : Ok 4294967296 es) (hec : es.length ≤ c2) :
    Calls Tryz.prog 166 #[.slice (some ⟨g, off, none⟩) n c, .slice A es.length c2] w (IncPost w g off n xs es) := by
  unfold maxLen at hc
  have H0 := IncRel.start (off := off) (n := n) (es := es) hrow hok
  clear hrow
  go_enter Tryz.func166, Tryz.ntmps166
  go_wp2
  go_loopw [5, 10] (fun v i wr => ∃ k carry : Nat, i = .int .i64 k ∧ v = .int .u32 carry ∧ IncRel w g off n xs es k carry wr) (fun _ i _ => n - (intOf i).toNat)
  case atStart => exact ⟨0, 0, rfl, rfl, H0⟩
  case round =>
    obtain ⟨k, carry, rfl, rfl, hR⟩ := hrel
    have hR0 := hR
    obtain ⟨zs, hc1, hrow, hl, hokz, hout, hv, hg, hkn⟩ := hR
    have HL := Lib.hid hl
    have HV := Lib.hid hv
    have HO := Lib.hid hout
    have HE := Lib.hid he
    clear hl hv hout
    rcases Nat.lt_or_ge k n with hk | hk
    · have hlz : off + k < zs.length := by rw [HL.out]; omega
      have hcell := hrow.cell hlz
      have hfr := hrow.frozen (off + k)
      have hyb := hokz.get hlz
      generalize hy : zs[off + k] = y at *
      have HY := Lib.hid hy
      clear hy
      rcases Nat.lt_or_ge k es.length with hke | hke
      · obtain ⟨b, o2, rfl, hb, hce⟩ := (hr.grown hg (ha (by intro e; subst e; simp at hke))).at_ hke
        have hxb := hoke.get hke
        have hes := val_take_succ 4294967296 hke
        generalize es[k] = x at *
        have HES := Lib.hid hes
        clear hes
        go_wp2_with (go_at_call 171; refine (add32_any _ _ _ _ hyb hxb hc1).mono ?_; rintro e w' ⟨rfl, rfl⟩)
        go_roundw
        case rel => exact ⟨k + 1, _, by go_num, rfl, IncRel.step hn hk hc1 hrow HL.out hokz HO.out HV.out hg y HY.out.symm hxb HES.out⟩
        case measure => simp [intOf]; omega
      · have hes : val 4294967296 (es.take (k + 1)) = val 4294967296 (es.take k) + 4294967296 ^ k * 0 := by
          rw [List.take_of_length_le hke, List.take_of_length_le (by omega)]; omega
        have HES := Lib.hid hes
        clear hes
        by_cases h0 : carry = 0
        · subst h0
          have hfin := IncRel.leave hn hkn hke hR0
          go_wp2
          go_ret
          exact ⟨0, rfl, hfin⟩
        · obtain rfl : carry = 1 := by omega
          go_wp2_with (go_at_call 171; refine (add32_any _ 0 _ _ hyb (by omega) hc1).mono ?_; rintro e w' ⟨rfl, rfl⟩)
          go_roundw
          case rel => exact ⟨k + 1, _, by go_num, rfl, IncRel.step hn hk hc1 hrow HL.out hokz HO.out HV.out hg y HY.out.symm (by omega) HES.out⟩
          case measure => simp [intOf]; omega
    · obtain rfl : k = n := by omega
      go_wp2
      go_ret
      exact ⟨carry, rfl, hR0⟩
end Go.Proofs.YtacbjbnocepnaaaGreatDoor
namespace Go.Proofs.YtacbjbnocepnaaaGreatDoor
open Go.RowKit Fm
def DecRel (w : World) (g off n : Nat) (xs es : List Nat) (k borrow : Nat) (w' : World) : Prop :=
  ∃ zs, borrow ≤ 1 ∧ Row .u32 191 w' g zs ∧ zs.length = xs.length ∧ Ok 4294967296 zs ∧ (∀ i, i < off ∨ off + k ≤ i → zs[i]? = xs[i]?) ∧
    val 4294967296 (seg zs off k) + val 4294967296 (es.take k) = val 4294967296 (seg xs off k) + 4294967296 ^ k * borrow ∧ w.grownBy w' (some g) ∧ k ≤ n
def DecPost (w : World) (g off n : Nat) (xs es : List Nat) (e : Ending) (w' : World) : Prop := ∃ borrow r, e = .returned r ∧ DecRel w g off n xs es n borrow w'
theorem DecRel.start {w : World} {g off n : Nat} {xs es : List Nat} (hrow : Row .u32 191 w g xs) (hok : Ok 4294967296 xs) : DecRel w g off n xs es 0 0 w :=
  ⟨xs, by omega, hrow, rfl, hok, fun _ _ => rfl, by simp [seg_zero, val], World.grownBy.refl w _, by omega⟩
theorem DecRel.step {w w' : World} {g off n k borrow x : Nat} {xs es zs : List Nat} (hn : off + n ≤ xs.length) (hk : k < n) (hc : borrow ≤ 1) (hrow : Row .u32 191 w' g zs) (hl : zs.length = xs.length) (hok : Ok 4294967296 zs)
    (hout : ∀ i, i < off ∨ off + k ≤ i → zs[i]? = xs[i]?) (hv : val 4294967296 (seg zs off k) + val 4294967296 (es.take k) = val 4294967296 (seg xs off k) + 4294967296 ^ k * borrow) (hg : w.grownBy w' (some g))
    (y : Nat) (hy : y = zs[off + k]'(by omega)) (hx : x < 4294967296) (hes : val 4294967296 (es.take (k + 1)) = val 4294967296 (es.take k) + 4294967296 ^ k * x) :
    DecRel w g off n xs es (k + 1) (bor32 y x borrow) (w'.setCell ⟨g, off + k, none⟩ (.int .u32 ((dif32 y x borrow : Nat) : Int))) := by
  have hyb : y < 4294967296 := by rw [hy]; exact hok.get _
  refine ⟨zs.set (off + k) (dif32 y x borrow), bor_le _ _ _, hrow.set _ _, by simp [hl], hok.set _ (dif_lt _ _ _), fun i hi => ?_, ?_, grown_set hg _ _, by omega⟩
  · rw [List.getElem?_set_ne (by omega)]; exact hout i (by omega)
  · have hlk : off + k < zs.length := by omega
    have hxs : y = xs[off + k]'(by omega) := by rw [hy]; exact getElem_of_get? (hout _ (.inr (Nat.le_refl _))) _ _
    rw [val_seg_succ _ (by simp; omega), seg_set _ (.inr (Nat.le_refl _)), val_seg_succ _ (by omega : off + k < xs.length), hes, ← hxs]
    simp only [List.getElem_set_self]
    have := dif_eq hyb hx hc
    rw [Nat.pow_succ]
    generalize dif32 y x borrow = r at *
    generalize bor32 y x borrow = q at *
    generalize 4294967296 ^ k = P at *
    grind
theorem DecRel.leave {w w' : World} {g off n k : Nat} {xs es : List Nat} (hn : off + n ≤ xs.length) (hk : k ≤ n) (he : es.length ≤ k) (h : DecRel w g off n xs es k 0 w') : DecRel w g off n xs es n 0 w' := by
  obtain ⟨zs, h1, h2, h3, h4, h5, h6, h7, h8⟩ := h
  refine ⟨zs, h1, h2, h3, h4, fun i hi => h5 i (by omega), ?_, h7, Nat.le_refl _⟩
  have := val_seg_rest 4294967296 hk (by omega) hn (fun i hi hj => h5 i (.inr hi))
  rw [List.take_of_length_le he] at h6
  rw [List.take_of_length_le (by omega)]
  omega
set_option maxHeartbeats 400000 in
theorem decrease_any (g off n c : Nat) (xs : List Nat) (A : Option Addr) (c2 : Nat) (es : List Nat) (w : World)
    (hrow : Row .u32 191 w g xs) (hn : off + n ≤ xs.length) (hnc : n ≤ c) (hc : c ≤ maxLen) (hok : Ok 4294967296 xs)
    (he : es.length ≤ n) (hr : Rd .u32 w A es) (ha : es ≠ [] → Away A g) (hoke : Ok 4294967296 es) (hec : es.length ≤ c2) :
    Calls Tryz.prog 165 #[.slice (some ⟨g, off, none⟩) n c, .slice A es.length c2] w (DecPost w g off n xs es) := by
  unfold maxLen at hc
  have H0 := DecRel.start (off := off) (n := n) (es := es) hrow hok
  clear hrow
  go_enter Tryz.func165, Tryz.ntmps165
  go_wp2
  go_loopw [4, 9] (fun v i wr => ∃ k borrow : Nat, i = .int .i64 k ∧ v = .int .u32 borrow ∧ DecRel w g off n xs es k borrow wr) (fun _ i _ => n - (intOf i).toNat)
  case atStart => exact ⟨0, 0, rfl, rfl, H0⟩
  case round =>
    obtain ⟨k, borrow, rfl, rfl, hR⟩ := hrel
    have hR0 := hR
    obtain ⟨zs, hc1, hrow, hl, hokz, hout, hv, hg, hkn⟩ := hR
    have HL := Lib.hid hl
    have HV := Lib.hid hv
    have HO := Lib.hid hout
    have HE := Lib.hid he
    clear hl hv hout
    rcases Nat.lt_or_ge k n with hk | hk
    · have hlz : off + k < zs.length := by rw [HL.out]; omega
      have hcell := hrow.cell hlz
      have hfr := hrow.frozen (off + k)
      have hyb := hokz.get hlz
      generalize hy : zs[off + k] = y at *
      have HY := Lib.hid hy
      clear hy
      rcases Nat.lt_or_ge k es.length with hke | hke
      · obtain ⟨b, o2, rfl, hb, hce⟩ := (hr.grown hg (ha (by intro e; subst e; simp at hke))).at_ hke
        have hxb := hoke.get hke
        have hes := val_take_succ 4294967296 hke
        generalize es[k] = x at *
        have HES := Lib.hid hes
        clear hes
        go_wp2_with (go_at_call 170; refine (sub32_any _ _ _ _ hyb hxb hc1).mono ?_; rintro e w' ⟨rfl, rfl⟩)
        go_roundw
        case rel => exact ⟨k + 1, _, by go_num, rfl, DecRel.step hn hk hc1 hrow HL.out hokz HO.out HV.out hg y HY.out.symm hxb HES.out⟩
        case measure => simp [intOf]; omega
      · have hes : val 4294967296 (es.take (k + 1)) = val 4294967296 (es.take k) + 4294967296 ^ k * 0 := by
          rw [List.take_of_length_le hke, List.take_of_length_le (by omega)]; omega
        have HES := Lib.hid hes
        clear hes
        by_cases h0 : borrow = 0
        · subst h0
          have hfin := DecRel.leave hn hkn hke hR0
          go_wp2
          refine bodyPost_end (results_none rfl _ _ _) rfl ?_
          exact ⟨0, _, rfl, hfin⟩
        · obtain rfl : borrow = 1 := by omega
          go_wp2_with (go_at_call 170; refine (sub32_any _ 0 _ _ hyb (by omega) hc1).mono ?_; rintro e w' ⟨rfl, rfl⟩)
          go_roundw
          case rel => exact ⟨k + 1, _, by go_num, rfl, DecRel.step hn hk hc1 hrow HL.out hokz HO.out HV.out hg y HY.out.symm (by omega) HES.out⟩
          case measure => simp [intOf]; omega
    · obtain rfl : k = n := by omega
      go_wp2
      refine bodyPost_end (results_none rfl _ _ _) rfl ?_
      exact ⟨borrow, _, rfl, hR0⟩
theorem cmp_any (v1 v2 : Value) (m n : Nat) (w : World) (h1 : Dv w v1 m) (h2 : Dv w v2 n) :
    Calls Tryz.prog 139 #[v1, v2] w fun e w' => e = .returned (.int .i64 ((m : Int) - n).sign) ∧ ∃ k, w' = w.drewN k := by
  have hm63 := h1.len
  have hn63 := h2.len
  obtain ⟨A, c, rfl, hc, hcm, hr⟩ := h1
  obtain ⟨A2, c2, rfl, hc2, hcm2, hr2⟩ := h2
  by_cases hl : (digs 4294967296 m).length = (digs 4294967296 n).length
  · have hl1 : ((digs 4294967296 m).length != (digs 4294967296 n).length) = false := by simp [hl]
    have HL := Lib.hid hl
    have hm1 := digs_ok (B := 4294967296) (by omega) m
    have hn1 := digs_ok (B := 4294967296) (by omega) n
    have hm2 := val_digs (B := 4294967296) (by omega) m
    have hn2 := val_digs (B := 4294967296) (by omega) n
    generalize digs 4294967296 m = ds at *
    generalize digs 4294967296 n = es at *
    have HM := Lib.hid hm2
    have HN := Lib.hid hn2
    have HL1 := Lib.hid hl1
    clear hm2 hn2 hl1
    rw [← hl]
    clear hl
    go_enter Tryz.func139, Tryz.ntmps139
    go_wp2
    go_loopw [5] (fun i wr => ∃ k q : Nat, k ≤ ds.length ∧ i = .int .i64 ((k : Int) - 1) ∧ Hid (ds.drop k = es.drop k) ∧ wr = w.drewN q) (fun i _ => (intOf i + 1).toNat)
    case atStart => exact ⟨ds.length, 0, Nat.le_refl _, rfl, by unfold Hid; rw [List.drop_eq_nil_of_le (Nat.le_refl _), List.drop_eq_nil_of_le (by have := HL.out; omega)], rfl⟩
    case round =>
      obtain ⟨k, q, hk, rfl, hd, rfl⟩ := hrel
      by_cases h0 : k = 0
      · subst h0
        go_wp2
        go_ret
        have : ds = es := by simpa using hd.out
        subst this
        have := HM.out.symm.trans HN.out
        subst this
        exact ⟨ret_int (by simp), _, rfl⟩
      · obtain ⟨j, rfl⟩ : ∃ j, k = j + 1 := ⟨k - 1, by omega⟩
        have hje : j < es.length := by have := HL.out; omega
        obtain ⟨b, off, rfl, hb, hcell⟩ := hr.at_ (i := j) (by omega)
        obtain ⟨b2, off2, rfl, hb2, hcell2⟩ := hr2.at_ (i := j) hje
        have hlt := @lt_of_drop 4294967296 (by omega) ds es j hm1 HL.out (by omega) hd.out
        have hgt := @lt_of_drop 4294967296 (by omega) es ds j hn1 HL.out.symm hje hd.out.symm
        rw [HM.out, HN.out] at hlt hgt
        have hdd : ds[j] = es[j] → ds.drop j = es.drop j := fun e => by
          rw [List.drop_eq_getElem_cons (by omega : j < ds.length), List.drop_eq_getElem_cons hje, e, hd.out]
        rw [show ((j + 1 : Nat) : Int) - 1 = (j : Int) by omega]
        generalize ds[j] = x at *
        generalize es[j] = y at *
        have HLT := Lib.hid hlt
        have HGT := Lib.hid hgt
        have HDD := Lib.hid hdd
        clear hlt hgt hdd
        rcases Nat.lt_trichotomy x y with hxy | hxy | hxy
        · go_wp2
          go_quiet (fail)
          go_wp2
          go_ret
          refine ⟨ret_int ?_, by simp only [World.drewN_drewN]; exact ⟨_, rfl⟩⟩
          have := HLT.out hxy
          exact (Int.sign_eq_neg_one_of_neg (by omega)).symm
        · subst hxy
          go_wp2
          go_quiet (fail)
          go_wp2
          go_quiet (fail)
          go_wp2
          go_roundw
          case rel => exact ⟨j, _, by omega, rfl, HDD.out trivial, rfl⟩
          case measure => simp [intOf]
        · go_wp2
          go_quiet (fail)
          go_wp2
          go_quiet (fail)
          go_wp2
          go_ret
          refine ⟨ret_int ?_, by simp only [World.drewN_drewN]; exact ⟨_, rfl⟩⟩
          have := HGT.out hxy
          exact (Int.sign_eq_one_of_pos (by omega)).symm
  · have hlb : ((((digs 4294967296 m).length : Nat) : Int) != (digs 4294967296 n).length) = true := by simp; omega
    have hlt := lt_of_length_lt (B := 4294967296) (m := m) (n := n) (by omega)
    have hgt := lt_of_length_lt (B := 4294967296) (m := n) (n := m) (by omega)
    generalize (digs 4294967296 m).length = x at *
    generalize (digs 4294967296 n).length = y at *
    have HLT := Lib.hid hlt
    have HGT := Lib.hid hgt
    clear hlt hgt
    go_enter Tryz.func139, Tryz.ntmps139
    go_wp2_with (go_at_call 134; refine (sign_any _ _).mono ?_; rintro e w' ⟨rfl, rfl⟩)
    go_ret
    refine ⟨ret_int ?_, 0, rfl⟩
    rcases Nat.lt_or_ge x y with h | h
    · have := HLT.out h
      rw [Int.sign_eq_neg_one_of_neg (by omega), Int.sign_eq_neg_one_of_neg (by omega)]
    · have := HGT.out (by omega)
      rw [Int.sign_eq_one_of_pos (by omega), Int.sign_eq_one_of_pos (by omega)]
end Go.Proofs.YtacbjbnocepnaaaGreatDoor

import Derived.Test.YtahmjnjammcifaaDoorDig5
namespace Go.Proofs.YtahmjnjammcifaaDoor
open Go.RowKit Fm

/-- The state of the multiplication behind j digits of the inner loop in round i. -/
def TimRel (g N : Nat) (w0 : World) (T top : Nat) (off carry : Nat) (w' : World) : Prop :=
  ∃ zs, Row .u32 102 w' g zs ∧ zs.length = N ∧ Ok 4294967296 zs ∧ carry < 4294967296 ∧ val 4294967296 zs + 4294967296 ^ off * carry = T ∧ (∀ q, top ≤ q → q < N → zs[q]? = some 0) ∧ w0.grownBy w' (some g)

theorem TimRel.step {g N T top off carry x y z : Nat} {w0 w' : World} {zs : List Nat} (hrow : Row .u32 102 w' g zs) (hl : zs.length = N) (hok : Ok 4294967296 zs) (hv : val 4294967296 zs + 4294967296 ^ off * carry = T) (hz : ∀ q, top ≤ q → q < N → zs[q]? = some 0) (hg : w0.grownBy w' (some g))
    (ho : off < zs.length) (hot : off < top) (hy : z = zs[off]) (hxb : x < 4294967296) (hyb : y < 4294967296) (hc : carry < 4294967296) :
    TimRel g N w0 (T + 4294967296 ^ off * (x * y)) top (off + 1) ((x * y + z + carry) / 4294967296) (w'.setCell ⟨g, off, none⟩ (.int .u32 (((x * y + z + carry) % 4294967296 : Nat) : Int))) := by
  have hzb : z < 4294967296 := by rw [hy]; exact hok.get _
  have hb := pow_bound hxb hyb hzb hc
  refine ⟨_, hrow.set _ _, by simp [hl], hok.set _ (Nat.mod_lt _ (by omega)), Nat.div_lt_of_lt_mul hb, ?_, fun q h1 h2 => ?_, grown_set hg _ _⟩
  · have h1 := val_set 4294967296 zs off ((x * y + z + carry) % 4294967296) ho
    rw [← hy] at h1
    have := mul_step (B := 4294967296) (P := T) (X := 0) (S := 0) (by simpa using hv) _ rfl _ h1
    simpa using this
  · rw [List.getElem?_set_ne (by omega)]; exact hz q h1 h2

set_option maxHeartbeats 1000000 in
set_option maxRecDepth 100000 in
theorem times_dv (v1 v2 : Value) (m n : Nat) (w : World) (h1 : Dv w v1 m) (h2 : Dv w v2 n) (hm : (digs 4294967296 m).length + (digs 4294967296 n).length ≤ 2147483648) :
    Calls Tryd.prog 94 #[v1, v2] w fun e w' => ∃ v, e = .returned v ∧ Dv w' v (m * n) ∧ Up w w' := by
  obtain ⟨A, c, rfl, hc, hcm, hr⟩ := h1
  obtain ⟨A2, c2, rfl, hc2, hcm2, hr2⟩ := h2
  have hok := digs_ok (B := 4294967296) (by omega) m
  have hok2 := digs_ok (B := 4294967296) (by omega) n
  have hv := val_digs (B := 4294967296) (by omega) m
  have hv2 := val_digs (B := 4294967296) (by omega) n
  generalize digs 4294967296 m = ds at *
  generalize digs 4294967296 n = es at *
  have HV := Lib.hid hv
  have HV2 := Lib.hid hv2
  clear hv hv2
  have hmk : ∀ W, (Instr.makeSlice 47 (.int .i64 ((ds.length : Int) + es.length)) (.int .i64 ((ds.length : Int) + es.length))).run Tryd.prog W = .ok (.slice (some ⟨W.heap.size, 0, none⟩) (ds.length + es.length) (ds.length + es.length)) (W.alloc (.cells (rowOf .u32 (zeroL (ds.length + es.length))) 102)) :=
    fun W => by have := mk32 (ds.length + es.length) (by omega) W; simpa using this
  have hrow0 := Row.new (k := .u32) (t := 102) w (zeroL (ds.length + es.length))
  have hrA := hr.up (Up.alloc w (.cells (rowOf .u32 (zeroL (ds.length + es.length))) 102))
  have hrA2 := hr2.up (Up.alloc w (.cells (rowOf .u32 (zeroL (ds.length + es.length))) 102))
  have haw : ds ≠ [] → Away A w.heap.size := fun h => Away.of_lt hr h (Nat.le_refl _)
  have haw2 : es ≠ [] → Away A2 w.heap.size := fun h => Away.of_lt hr2 h (Nat.le_refl _)
  have hup0 := Up.alloc w (.cells (rowOf .u32 (zeroL (ds.length + es.length))) 102)
  have H0 : TimRel w.heap.size (ds.length + es.length) (w.alloc (.cells (rowOf .u32 (zeroL (ds.length + es.length))) 102)) 0 es.length 0 0 (w.alloc (.cells (rowOf .u32 (zeroL (ds.length + es.length))) 102)) :=
    ⟨_, hrow0, zeroL_length _, zeroL_ok (by omega) _, by omega, by simp [zeroL_val], fun q _ hq => by rw [List.getElem?_eq_getElem (by rw [zeroL_length]; exact hq), zeroL_get], World.grownBy.refl _ _⟩
  clear hrow0
  go_enter Tryd.func94, Tryd.ntmps94
  go_wp2
  generalize hWA : w.alloc (.cells (rowOf .u32 (zeroL (ds.length + es.length))) 102) = wA at *
  clear hWA
  go_loopw [20] (fun iv wr => ∃ i : Nat, iv = .int .i64 i ∧ i ≤ ds.length ∧ TimRel w.heap.size (ds.length + es.length) wA (val 4294967296 (ds.take i) * val 4294967296 es) (i + es.length) 0 0 wr) (fun iv _ => ds.length - (intOf iv).toNat)
  case atStart => exact ⟨0, rfl, by omega, by simpa [val] using H0⟩
  case round =>
    obtain ⟨i, rfl, hi, hR⟩ := hrel
    rcases Nat.lt_or_ge i ds.length with hlt | hge
    · have hgw : wA.grownBy wr (some w.heap.size) := by obtain ⟨_, _, _, _, _, _, _, h⟩ := hR; exact h
      obtain ⟨b, off, rfl, hb, hcell⟩ := (hrA.grown hgw (haw (by intro e; subst e; simp at hlt))).at_ hlt
      have hxb := hok.get hlt
      have htk := val_take_succ 4294967296 hlt
      generalize ds[i] = x at *
      have HTK := Lib.hid htk
      clear htk
      have HA := Lib.hid hcell
      go_wp2
      obtain ⟨wo, hwo⟩ : ∃ wo : World, wo = wr := ⟨_, rfl⟩
      rw [← hwo] at hR hcell
      clear HA
      go_loopw [8, 27] (fun cv jv wr => ∃ j cy : Nat, jv = .int .i64 j ∧ cv = .int .u64 cy ∧ j ≤ es.length ∧ TimRel w.heap.size (ds.length + es.length) wA (val 4294967296 (ds.take i) * val 4294967296 es + 4294967296 ^ i * (x * val 4294967296 (es.take j))) (i + es.length) (i + j) cy wr) (fun _ jv _ => es.length - (intOf jv).toNat)
      case atStart =>
        refine ⟨0, 0, rfl, rfl, by omega, ?_⟩
        rw [← hwo]
        obtain ⟨zs, g1, g2, g3, g4, g5, g6, g7⟩ := hR
        exact ⟨zs, g1, g2, g3, by omega, by simpa [val] using g5, g6, g7⟩
      case round =>
        obtain ⟨j, cy, rfl, rfl, hj, hQ⟩ := hrel
        have hgw2 : wA.grownBy wr (some w.heap.size) := by obtain ⟨_, _, _, _, _, _, _, h⟩ := hQ; exact h
        obtain ⟨zs, hrow, hl, hokz, hcy, hvz, hz, -⟩ := hQ
        have HL := Lib.hid hl
        have HVZ := Lib.hid hvz
        have HZ := Lib.hid hz
        clear hl hvz hz
        rcases Nat.lt_or_ge j es.length with hjlt | hjge
        · obtain ⟨b2, off2, rfl, hb2, hcell2⟩ := (hrA2.grown hgw2 (haw2 (by intro e; subst e; simp at hjlt))).at_ hjlt
          have hyb := hok2.get hjlt
          have htk2 := val_take_succ 4294967296 hjlt
          generalize es[j] = y at *
          have HTK2 := Lib.hid htk2
          clear htk2
          have hij : i + j < zs.length := by rw [HL.out]; omega
          have hcz := hrow.cell hij
          have hfr := hrow.frozen (i + j)
          have hzb := hokz.get hij
          generalize hzz : zs[i + j] = z at *
          have HZZ := Lib.hid hzz
          clear hzz
          have hpb := pow_bound hxb hyb hzb hcy
          have hp0 : 0 ≤ (x : Int) * y := Int.mul_nonneg (by omega) (by omega)
          have hp1 : (x : Int) * y + z + cy ≤ 18446744073709551615 := by
            have : ((x * y + z + cy : Nat) : Int) < 18446744073709551616 := by omega
            simp only [Int.natCast_add, Int.natCast_mul] at this; omega
          have HS := Lib.hid (TimRel.step hrow HL.out hokz HVZ.out HZ.out hgw2 hij (by omega) HZZ.out.symm hxb hyb hcy)
          go_wp2
          refine ⟨⟨j + 1, (x * y + z + cy) / 4294967296, by go_num, by simp, by omega, ?_⟩, by simp [intOf]; omega⟩
          have e1 : (((x * y + z + cy) % 4294967296 : Nat) : Int) = ((x : Int) * y + z + cy) % 4294967296 := by simp
          have e2 : val 4294967296 (ds.take i) * val 4294967296 es + 4294967296 ^ i * (x * val 4294967296 (es.take j)) + 4294967296 ^ (i + j) * (x * y) = val 4294967296 (ds.take i) * val 4294967296 es + 4294967296 ^ i * (x * val 4294967296 (es.take (j + 1))) := by
            rw [HTK2.out, Nat.pow_add]
            generalize 4294967296 ^ i = Pi
            generalize 4294967296 ^ j = Pj
            grind
          rw [← e1, ← e2]
          exact HS.out
        · obtain rfl : j = es.length := by omega
          have hij : i + es.length < zs.length := by rw [HL.out]; omega
          have hcz := hrow.cell hij
          have hfr := hrow.frozen (i + es.length)
          have hz0 : zs[i + es.length] = 0 := by
            have := HZ.out (i + es.length) (Nat.le_refl _) (by have := HL.out; omega)
            rw [List.getElem?_eq_getElem hij] at this
            exact Option.some.inj this
          have hfin : TimRel w.heap.size (ds.length + es.length) wA (val 4294967296 (ds.take (i + 1)) * val 4294967296 es) (i + 1 + es.length) 0 0 (wr.setCell ⟨w.heap.size, i + es.length, none⟩ (.int .u32 (cy : Int))) := by
            have h1 := val_set 4294967296 zs (i + es.length) cy hij
            refine ⟨_, hrow.set _ _, by simp [HL.out], hokz.set _ hcy, by omega, ?_, fun q h1 h2 => ?_, grown_set hgw2 _ _⟩
            · rw [hz0] at h1
              have h2 := HVZ.out
              rw [List.take_length] at h2
              rw [HTK.out, Nat.add_mul]
              have : 4294967296 ^ i * (x * val 4294967296 es) = 4294967296 ^ i * x * val 4294967296 es := by rw [Nat.mul_assoc]
              omega
            · rw [List.getElem?_set_ne (by omega)]; exact HZ.out q (by omega) h2
          have HF := Lib.hid hfin
          clear hfin hz0
          go_wp2
          refine ⟨⟨i + 1, by go_num, by omega, HF.out⟩, by simp [intOf]; omega⟩
    · obtain rfl : i = ds.length := by omega
      obtain ⟨zs, hrow, hl, hokz, -, hvz, -, hg⟩ := hR
      rw [List.take_length, HV.out, HV2.out, Nat.mul_zero, Nat.add_zero] at hvz
      have HVZ := Lib.hid hvz
      have HL := Lib.hid hl
      clear hvz hl
      go_wp2_with (go_at_call 88; refine (trim_row w.heap.size (ds.length + es.length) (ds.length + es.length) zs wr hrow hokz HL.out (Nat.le_refl _) (by unfold maxLen; omega)).mono ?_; rintro e w4 ⟨⟨rfl, hdv⟩, rfl⟩; rw [HVZ.out] at hdv ⊢)
      go_ret
      exact ⟨_, rfl, hdv, hup0.grown hg (Nat.le_refl _)⟩
end Go.Proofs.YtahmjnjammcifaaDoor

/- Contract of the division of the reference implementation. -/
import Derived.Test.YtacbjbnocepnaaaGreatDoorQGK2
import Derived.Deep.RegionLawGrows
namespace Go.Proofs.YtacbjbnocepnaaaGreatDoor
open Go.RowKit Fm
def OwR (w : World) (g cap : Nat) (zs : List Nat) : Prop :=
  ∃ cur, w.heap[g]? = some (.cells cur 3 (0, 0)) ∧ cur.size = cap ∧ zs.length ≤ cap ∧ cap ≤ maxLen ∧ cur.toList.take zs.length = zs.map fun d : Nat => Value.int .i64 (d : Int)
section
variable {w w' : World} {g cap base : Nat} {zs ds : List Nat} {v : Value}
theorem OwR.lt (h : OwR w g cap zs) : g < w.heap.size := by
  obtain ⟨cur, hg, -⟩ := h
  rcases Nat.lt_or_ge g w.heap.size with hlt | hge
  · exact hlt
  · rw [Array.getElem?_eq_none hge] at hg; cases hg
theorem Ow.owR (h : Ow w base v zs) (hn : zs ≠ []) : ∃ g cap, v = .slice (some ⟨g, 0, none⟩) zs.length cap ∧ base ≤ g ∧ OwR w g cap zs := by
  obtain ⟨hl, h⟩ := h
  rcases h with ⟨rfl, hz⟩ | ⟨g, cap, cur, rfl, hb, hg, hle, hcm, hsz, htk⟩
  · exact absurd (List.eq_nil_of_length_eq_zero hz) hn
  · exact ⟨g, cap, rfl, hb, cur, hg, by omega, hle, hcm, by rw [Nat.mul_one] at htk; exact htk⟩
theorem OwR.block (h : OwR w g cap zs) (hb : w'.heap[g]? = w.heap[g]?) : OwR w' g cap zs := by
  obtain ⟨cur, hg, h1⟩ := h
  exact ⟨cur, hb.trans hg, h1⟩
theorem OwR.up (h : OwR w g cap zs) (hu : Up w w') : OwR w' g cap zs := h.block (hu.block g h.lt)
theorem OwR.drewN (h : OwR w g cap zs) (n : Nat) : OwR (w.drewN n) g cap zs := h
theorem OwR.grown {g' : Nat} (h : OwR w g cap zs) (hu : w.grownBy w' (some g')) (hne : g ≠ g') : OwR w' g cap zs := h.block (hu.block g h.lt (by intro e; cases e; exact hne rfl))
theorem OwR.cell (h : OwR w g cap zs) {i : Nat} (hi : i < zs.length) : w.cell? ⟨g, i, none⟩ = some (.int .i64 (zs[i] : Nat)) := by
  obtain ⟨cur, hg, h1, h2, h3, h4⟩ := h
  rw [cell_of_row w g i _ _ _ hg]
  have h5 : (cur.toList.take zs.length)[i]? = some (Value.int .i64 (zs[i] : Nat)) := by
    rw [h4, List.getElem?_map, List.getElem?_eq_getElem hi]; rfl
  rw [List.getElem?_take_of_lt hi] at h5
  rw [← h5]; simp
theorem OwR.rd (h : OwR w g cap zs) (off n : Nat) : Rd .i64 w (some ⟨g, off, none⟩) ((zs.drop off).take n) := fun _ =>
  ⟨g, off, rfl, h.lt, fun i hi => by
    simp only [List.length_take, List.length_drop] at hi
    rw [h.cell (by omega)]; simp⟩
theorem OwR.sl (h : OwR w g cap zs) (off n c : Nat) (hn : off + n ≤ zs.length) (hc : n ≤ c) (hcm : c ≤ maxLen) : Sl .i64 w (.slice (some ⟨g, off, none⟩) n c) ((zs.drop off).take n) :=
  ⟨some ⟨g, off, none⟩, c, by rw [List.length_take, List.length_drop, Nat.min_eq_left (by omega)], by rw [List.length_take, List.length_drop, Nat.min_eq_left (by omega)]; exact hc, hcm, h.rd off n⟩
theorem OwR.spliced (h : OwR w g cap zs) (off : Nat) (hf : off + ds.length ≤ zs.length) : ∃ cur, w.heap[g]? = some (.cells cur 3 (0, 0)) ∧ off + (ds.map fun d : Nat => Value.int .i64 (d : Int)).length ≤ cur.size ∧
    OwR (w.setRow g (cur.toList.take off ++ ((ds.map fun d : Nat => Value.int .i64 (d : Int)) ++ cur.toList.drop (off + (ds.map fun d : Nat => Value.int .i64 (d : Int)).length))).toArray) g cap (zs.take off ++ (ds ++ zs.drop (off + ds.length))) := by
  obtain ⟨cur, hg, h1, h2, h3, h4⟩ := h
  refine ⟨cur, hg, by rw [List.length_map]; omega, ?_⟩
  refine ⟨(cur.toList.take off ++ ((ds.map fun d : Nat => Value.int .i64 (d : Int)) ++ cur.toList.drop (off + (ds.map fun d : Nat => Value.int .i64 (d : Int)).length))).toArray, ?_, ?_, ?_, h3, ?_⟩
  · exact setRow_heap w g cur _ _ (0, 0) hg
  · simp only [List.size_toArray, List.length_append, List.length_take, List.length_drop, List.length_map, Array.length_toList]; omega
  · simp only [List.length_append, List.length_take, List.length_drop]; omega
  · have hlen : (zs.take off ++ (ds ++ zs.drop (off + ds.length))).length = zs.length := by
      simp only [List.length_append, List.length_take, List.length_drop]; omega
    rw [hlen]
    simp only [List.map_append, List.map_take, List.map_drop, ← h4, List.length_map]
    have hcl : zs.length ≤ cur.size := by omega
    have e1 : off ≤ cur.toList.length := by rw [Array.length_toList]; omega
    have e2 : (ds.map fun d : Nat => Value.int .i64 (d : Int)).length = ds.length := List.length_map _
    generalize (ds.map fun d : Nat => Value.int .i64 (d : Int)) = D at *
    rw [← e2] at hf ⊢
    rw [List.take_append, List.take_append, List.length_take, Nat.min_eq_left e1, List.take_take, List.take_take, Nat.min_comm off, List.drop_take, List.take_of_length_le (show D.length ≤ zs.length - off by omega), show zs.length - off - D.length = zs.length - (off + D.length) by omega]
end
end Go.Proofs.YtacbjbnocepnaaaGreatDoor
namespace Go.Proofs.YtacbjbnocepnaaaGreatDoor
open Go.RowKit Fm
def DivPost (w w' : World) (m k : Nat) (e : Ending) : Prop :=
  ∃ q r qs rs, e = .returned (.tuple #[q, r]) ∧ Sl .i64 w' q qs ∧ Ok 1073741824 qs ∧ val 1073741824 qs = m / k ∧ Sl .i64 w' r rs ∧ Ok 1073741824 rs ∧ val 1073741824 rs = m % k ∧ Up w w'
set_option maxHeartbeats 1000000 in
set_option maxRecDepth 10000 in
theorem refDivided_one (v1 v2 : Value) (m k : Nat) (w : World) (h1 : Ev w v1 m) (h2 : Ev w v2 k) (hk : 0 < k) (hl : (digs 1073741824 k).length = 1) (hm : (digs 1073741824 m).length ≤ 536870912) :
    Calls Tryz.prog 124 #[v1, v2] w fun e w' => DivPost w w' m k e := by
  have hvk := val_digs (B := 1073741824) (by omega) k
  have hok := digs_ok (B := 1073741824) (by omega) k
  have hH1 := Lib.hid h1
  obtain ⟨A2, c2, rfl, hc2, hcm2, hr2⟩ := h2
  generalize digs 1073741824 k = es at *
  match es, hl with
  | [x], _ =>
    have hx := hok.head
    have hxk : x = k := by simpa [val] using hvk
    have hx0 : 0 < x := by omega
    obtain ⟨b, off, rfl, hb, hcell⟩ := hr2.at_ (i := 0) (by simp)
    have hcell' : w.cell? ⟨b, off, none⟩ = some (.int .i64 (x : Int)) := by simpa using hcell
    have HS := Lib.hid (fun W (hu : Up w W) => refShorter_any v1 _ x W (Sl.up hH1.out hu) (digs_ok (by omega) m) hx0 hx (by omega))
    obtain ⟨A, c, rfl, hc, hcm, hr⟩ := hH1.out
    subst hxk
    clear hcell hvk hok hr2 hH1 hr
    go_enter Tryz.func124, Tryz.ntmps124
    go_wp2_with fail
    refine Calls.mono (HS.out _ (Up.refl _)) ?_
    rintro e w1 ⟨g, xs, rfl, hg, hrow, hokx, hvx, hlx, hu1⟩
    rw [val_digs (by omega)] at hvx ⊢
    have HX := Lib.hid (And.intro hvx hlx)
    have HROW := Lib.hid hrow
    have HOK := Lib.hid hokx
    have HU := Lib.hid hu1
    clear hvx hlx hrow hokx hu1
    go_wp2
    go_ret2
    have hmod : m % x < 1073741824 := by have := Nat.mod_lt m hx0; omega
    refine ⟨_, _, xs, [m % x], rfl, ?_, HOK.out, HX.out.1, ?_, Ok.cons hmod Ok.nil, by simp [val], HU.out.trans (Up.alloc _ _)⟩
    · have hr := Rd.of_row0 (HROW.out.up (Up.alloc w1 (.cells #[.int .i64 ((m % x : Nat) : Int)] 3)))
      exact ⟨_, _, by rw [← HX.out.2]; rfl, by have := HX.out.2; omega, by have := HX.out.2; unfold maxLen; omega, hr⟩
    · exact (Ow.one w1 w1.heap.size _ (m % x) rfl (Nat.le_refl _)).sl
set_option maxHeartbeats 1000000 in
set_option maxRecDepth 10000 in
theorem refDivided_less (v1 v2 : Value) (m k : Nat) (w : World) (h1 : Ev w v1 m) (h2 : Ev w v2 k) (hl : (digs 1073741824 k).length ≠ 1) (hmk : m < k) :
    Calls Tryz.prog 124 #[v1, v2] w fun e w' => DivPost w w' m k e := by
  have HCMP := Lib.hid (refCmp_any v1 v2 m k w h1 h2)
  have hsg : ((m : Int) - k).sign = -1 := Int.sign_eq_neg_one_of_neg (by omega)
  rw [hsg] at HCMP
  have H1 := Lib.hid h1
  obtain ⟨A2, c2, rfl, hc2, hcm2, hr2⟩ := h2
  have hl1 : ((((digs 1073741824 k).length : Nat) : Int) == 1) = false := by simp; omega
  have HMK := Lib.hid hmk
  generalize (digs 1073741824 k).length = n at *
  clear h1 hsg hr2 hmk
  go_enter Tryz.func124, Tryz.ntmps124
  go_wp2_with fail
  refine Calls.mono HCMP.out ?_
  rintro e w1 ⟨rfl, q, rfl⟩
  go_wp2
  go_ret2
  have hm := HMK.out
  exact ⟨_, _, [], _, rfl, (Ow.nil w 0).sl, Ok.nil, by rw [Nat.div_eq_of_lt hm]; rfl, Sl.drewN H1.out q, digs_ok (by omega) m, by rw [val_digs (by omega), Nat.mod_eq_of_lt hm], Up.drewN _ _⟩
end Go.Proofs.YtacbjbnocepnaaaGreatDoor
namespace Go.Proofs.YtacbjbnocepnaaaGreatDoor
open Go.RowKit Fm
theorem div_factor {k x f n : Nat} {es : List Nat} (hv : val 1073741824 es = k) (hok : Ok 1073741824 es) (hl : es.length = n + 1) (hx : ∃ h : n < es.length, x = es[n]) (hx0 : 0 < x) (hf : f = 1073741824 / (x + 1)) :
    0 < f ∧ f < 1073741824 ∧ k * f < 1073741824 ^ (n + 1) ∧ 1073741824 ^ n ≤ k * f ∧ 1073741824 ^ n ≤ k := by
  obtain ⟨hn, hxe⟩ := hx
  have hxb : x < 1073741824 := by rw [hxe]; exact hok.get hn
  have h1 := val_take_succ 1073741824 hn
  rw [show n + 1 = es.length by omega, List.take_length, hv, ← hxe] at h1
  have h2 := val_lt (B := 1073741824) (by omega) (hok.take n)
  rw [List.length_take, Nat.min_eq_left (by omega)] at h2
  have hf0 : 0 < f := by
    rw [hf]; exact Nat.div_pos (by omega) (by omega)
  have hfx : f * (x + 1) ≤ 1073741824 := by rw [hf]; exact Nat.div_mul_le_self _ _
  have hf1 : f < 1073741824 := by
    have : f * 2 ≤ f * (x + 1) := Nat.mul_le_mul_left _ (by omega)
    omega
  have h3 : k < 1073741824 ^ n * (x + 1) := by rw [Nat.mul_add]; omega
  have h4 : k * f < 1073741824 ^ n * (x + 1) * f := Nat.mul_lt_mul_of_pos_right h3 hf0
  have h5 : 1073741824 ^ n * (x + 1) * f ≤ 1073741824 ^ n * 1073741824 := by
    rw [Nat.mul_assoc, Nat.mul_comm (x + 1)]
    exact Nat.mul_le_mul_left _ hfx
  have h6 : 1073741824 ^ n * 1 ≤ 1073741824 ^ n * x := Nat.mul_le_mul_left _ hx0
  have h7 : k * 1 ≤ k * f := Nat.mul_le_mul_left _ hf0
  exact ⟨hf0, hf1, by rw [Nat.pow_succ]; omega, by omega, by omega⟩
theorem last_pos {k n : Nat} (hl : (digs 1073741824 k).length = n + 1) (h : n < (digs 1073741824 k).length) : 0 < (digs 1073741824 k)[n] := by
  have h1 := val_take_succ 1073741824 h
  rw [show n + 1 = (digs 1073741824 k).length by omega, List.take_length, val_digs (by omega)] at h1
  rcases Nat.eq_zero_or_pos (digs 1073741824 k)[n] with h0 | h0
  · exfalso
    have h2 := val_lt (B := 1073741824) (by omega) ((digs_ok (B := 1073741824) (by omega) k).take n)
    rw [List.length_take, Nat.min_eq_left (by omega)] at h2
    rw [h0] at h1
    have h3 := digs_length_le (B := 1073741824) (n := k) (k := n) (by omega) (by omega)
    omega
  · exact h0
theorem OwR.win {w : World} {g cap : Nat} {zs : List Nat} (h : OwR w g cap zs) (off n : Nat) (hn : off + n ≤ zs.length) : ∀ (i : Nat) (u : Value), (((zs.drop off).take n).map fun d : Nat => Value.int .i64 (d : Int))[i]? = some u → w.cell? ((⟨g, off, none⟩ : Addr).add i) = some u := by
  intro i u hu
  rw [List.getElem?_map] at hu
  by_cases hi : i < ((zs.drop off).take n).length
  · rw [List.getElem?_eq_getElem hi] at hu
    simp only [List.length_take, List.length_drop] at hi
    have hc := h.cell (i := off + i) (by omega)
    simp only [Option.map_some, Option.some.injEq, List.getElem_take, List.getElem_drop] at hu
    rw [← hu]
    by_cases h0 : i = 0
    · subst h0; simpa [Addr.add] using hc
    · simpa [Addr.add, h0] using hc
  · rw [List.getElem?_eq_none (by omega)] at hu
    cases hu
theorem OwR.capb {w : World} {g cap : Nat} {zs : List Nat} (h : OwR w g cap zs) : cap ≤ maxLen := by obtain ⟨_, _, _, _, h, _⟩ := h; exact h
theorem Up.ofNone {w w' : World} (h : w.grownBy w' none) : Up w w' := ⟨h.os, h.tape, h.output, h.size, fun j hj => h.block j hj (by intro e; cases e)⟩
theorem Ow.ofNews {w : World} {base n : Nat} {v : Value} {zs : List Nat} (h : w.ownsRow base 3 1 v (0 + n) ([] ++ zs.map fun d : Nat => Value.int .i64 (d : Int))) (hn : zs.length = n) : Ow w base v zs := by
  subst hn
  unfold Ow
  simpa using h
set_option maxHeartbeats 4000000 in
set_option maxRecDepth 100000 in
theorem refDivided_main (v1 v2 : Value) (m k n : Nat) (w : World) (h1 : Ev w v1 m) (h2 : Ev w v2 k) (hl : (digs 1073741824 k).length = n + 1) (hn1 : 1 ≤ n) (hkm : k ≤ m) (hm : (digs 1073741824 m).length ≤ 536870912) :
    Calls Tryz.prog 124 #[v1, v2] w fun e w' => DivPost w w' m k e := by
  have HCMP := Lib.hid (refCmp_any v1 v2 m k w h1 h2)
  obtain ⟨sg, hsg⟩ : ∃ sg : Int, sg = ((m : Int) - k).sign := ⟨_, rfl⟩
  have hsg0 : ¬ sg < 0 := by rw [hsg, Int.sign_neg_iff]; omega
  rw [← hsg] at HCMP
  have hlen : (digs 1073741824 k).length ≤ (digs 1073741824 m).length := digs_len_le hkm
  obtain ⟨x, hx⟩ : ∃ x, x = (digs 1073741824 k)[n]'(by omega) := ⟨_, rfl⟩
  have hx0 : 0 < x := by rw [hx]; exact last_pos hl _
  obtain ⟨f, hf⟩ : ∃ f, f = 1073741824 / (x + 1) := ⟨_, rfl⟩
  have hF := div_factor (val_digs (by omega) k) (digs_ok (by omega) k) hl ⟨by omega, hx⟩ hx0 hf
  obtain ⟨hf0, hf1, hV1, hV2, hV3⟩ := hF
  have HF0 := Lib.hid (And.intro hf0 hf1)
  have HV := Lib.hid (And.intro hV1 (And.intro hV2 hV3))
  have HSA := Lib.hid (fun W (hu : Up w W) => refScaled_any v1 _ f W (Sl.up h1 hu) (digs_ok (by omega) m) hf1 (by omega))
  have HSB := Lib.hid (fun W (hu : Up w W) => refScaled_any v2 _ f W (Sl.up h2 hu) (digs_ok (by omega) k) hf1 (by omega))
  have HVM := Lib.hid (val_digs (B := 1073741824) (by omega) m)
  have HVK := Lib.hid (val_digs (B := 1073741824) (by omega) k)
  have HOKK := Lib.hid (digs_ok (B := 1073741824) (by omega) k)
  have HMLT : Hid (m < 1073741824 ^ (digs 1073741824 m).length) := by
    have := val_lt (B := 1073741824) (by omega) (digs_ok (B := 1073741824) (by omega) m)
    rw [val_digs (by omega)] at this
    exact this
  obtain ⟨A, c, rfl, hc, hcm, hr⟩ := h1
  obtain ⟨A2, c2, rfl, hc2, hcm2, hr2⟩ := h2
  obtain ⟨b, off, rfl, hb, hcell⟩ := hr2.at_ (i := n) (by omega)
  rw [← hx] at hcell
  have hxb : x < 1073741824 := by rw [hx]; exact (digs_ok (B := 1073741824) (by omega) k).get _
  clear hx
  generalize digs 1073741824 m = ds at *
  generalize digs 1073741824 k = es at *
  have HFI : Hid ((1073741824 : Int) / ((x : Int) + 1) = (f : Int)) := by
    unfold Hid
    rw [hf, Int.natCast_ediv]; rfl
  have HL := Lib.hid hl
  have hl1 : ((es.length : Int) == 1) = false := by simp; omega
  have hes : (es.length : Int) - 1 = (n : Int) := by omega
  have hnl : n < es.length := by omega
  have hes2 : es.length ≤ 536870912 := by omega
  have HLEN := Lib.hid hlen
  clear hsg hr hf hf0 hf1 hV1 hV2 hV3 hx0 hkm hl hlen
  go_enter Tryz.func124, Tryz.ntmps124
  go_wp2_with fail
  refine Calls.mono HCMP.out ?_
  rintro e w1 ⟨rfl, q, rfl⟩
  have HU1 := Lib.hid (Up.drewN w q)
  have hcell1 : (w.drewN q).cell? ⟨b, off + n, none⟩ = some (.int .i64 (x : Int)) := hcell
  clear hcell
  go_upto_region 7 with fail
  rw [HFI.out]
  go_region_held3 (fun w' => True) (exact trivial)
    ((first
      | (go_at_call_of 143 (Value.slice A ds.length c)
         refine Calls.mono (HSA.out _ (by (repeat (first | exact Below.refl _ _ | exact Hid.out (by assumption) | refine Up.trans ?_ (Up.drew _) | refine Up.trans ?_ (Up.drewN _ _) | refine Up.trans ?_ (Up.alloc _ _) | refine Up.trans ?_ (Hid.out (by assumption)))))) ?_
         rintro e w2 ⟨u0, zu, rfl, howu, hoku, hvu, hlu, hu2⟩
         obtain ⟨gu, cu, rfl, hgu, hou⟩ := howu.owR (by intro e; rw [e] at hlu; simp at hlu)
         have HU2 := Lib.hid hu2
         have HOU := Lib.hid hou
         have HGU := Lib.hid hgu
         have HZU := Lib.hid (And.intro hoku hvu)
         clear howu hoku hvu hu2 hou hgu)
      | (go_at_call_of 143 (Value.slice (some ⟨b, off, none⟩) es.length c2)
         refine Calls.mono (HSB.out _ (by (repeat (first | exact Below.refl _ _ | exact Hid.out (by assumption) | refine Up.trans ?_ (Up.drew _) | refine Up.trans ?_ (Up.drewN _ _) | refine Up.trans ?_ (Up.alloc _ _) | refine Up.trans ?_ (Hid.out (by assumption)))))) ?_
         rintro e w3 ⟨v0, zv, rfl, howv, hokv, hvv, hlv, hu3⟩
         obtain ⟨gv, cv, rfl, hgv, hov⟩ := howv.owR (by intro e; rw [e] at hlv; simp at hlv)
         have HU3 := Lib.hid hu3
         have HOV := Lib.hid hov
         have HGV := Lib.hid hgv
         have HZV := Lib.hid (And.intro hokv hvv)
         have hcv : es.length ≤ cv := by obtain ⟨_, _, _, h, _⟩ := hov; omega
         clear howv hokv hvv hu3 hov hgv)))
  obtain ⟨qn, hnq⟩ : ∃ qn : Nat, qn = ds.length + 1 - es.length := ⟨_, rfl⟩
  have hnqI : (ds.length : Int) + 1 - (es.length : Int) = (qn : Int) := by have := HLEN.out; omega
  have hnq1 : 1 ≤ qn := by have := HLEN.out; omega
  have hnq2 : qn ≤ 536870912 := by omega
  have hmk := mk64 qn (by omega)
  have HUW := Lib.hid (show Up w w3 by (repeat (first | exact Below.refl _ _ | exact Hid.out (by assumption) | refine Up.trans ?_ (Up.drew _) | refine Up.trans ?_ (Up.drewN _ _) | refine Up.trans ?_ (Up.alloc _ _) | refine Up.trans ?_ (Hid.out (by assumption)))))
  have HBU : Hid (w.heap.size ≤ gu ∧ gu < w2.heap.size ∧ w.heap.size ≤ gv ∧ gu ≠ gv ∧ gv < w3.heap.size ∧ gu < w3.heap.size) := by
    have q1 := HGU.out
    have q2 := HGV.out
    have q3 := HOU.out.lt
    have q4 := HOV.out.lt
    have q5 := HU2.out.size
    have q6 := HU3.out.size
    have q7 : (w.drewN (q + 1)).heap.size = w.heap.size := rfl
    unfold Hid
    omega
  have HOU3 := Lib.hid (HOU.out.up HU3.out)
  have HST : Hid (DivAt 1073741824 (m * f) (k * f) (n + 1) (ds.length + 1) zu (zeroL qn) qn) := by
    have h1 := DivAt.start (B := 1073741824) (n := n + 1) (b := k) (f := f) (by omega) HMLT.out (by simpa using HV.out.2.2) (by omega) (by have := HL.out; have := HLEN.out; omega) HF0.out.1 hlu HZU.out.1 (by rw [HZU.out.2, HVM.out])
    unfold Hid
    have e : ds.length + 1 - (n + 1) = qn := by have := HL.out; omega
    rw [e] at h1
    exact h1
  have HNQ := Lib.hid hnq
  have HVS : Hid (val 1073741824 (zv.take (n + 1)) = k * f ∧ (zv.take (n + 1)).length = n + 1 ∧ Ok 1073741824 (zv.take (n + 1))) := by
    have h1 := val_take_add 1073741824 zv (n + 1) (by have := HL.out; omega)
    have h2 := HZV.out.2
    rw [HVK.out] at h2
    have h3 := HV.out.1
    have h4 : val 1073741824 (zv.drop (n + 1)) = 0 := by
      rcases Nat.eq_zero_or_pos (val 1073741824 (zv.drop (n + 1))) with h | h
      · exact h
      · have h5 : 1073741824 ^ (n + 1) * 1 ≤ 1073741824 ^ (n + 1) * val 1073741824 (zv.drop (n + 1)) := Nat.mul_le_mul_left _ h
        omega
    rw [h4, Nat.mul_zero, Nat.add_zero] at h1
    exact ⟨by omega, by rw [List.length_take]; have := HL.out; omega, HZV.out.1.take _⟩
  obtain ⟨vt, hvte⟩ : ∃ vt, vt = zv[n]'(by have := HL.out; omega) := ⟨_, rfl⟩
  have HVT : Hid (0 < vt) := by
    have h1 := val_take_succ 1073741824 (l := zv) (k := n) (by have := HL.out; omega)
    rw [HVS.out.1, ← hvte] at h1
    have h2 := val_lt (B := 1073741824) (by omega) (HZV.out.1.take n)
    rw [List.length_take, Nat.min_eq_left (by have := HL.out; omega)] at h2
    have h3 := HV.out.2.1
    rcases Nat.eq_zero_or_pos vt with h | h
    · exfalso; rw [h] at h1; omega
    · exact h
  have hvtb : vt < 1073741824 := by rw [hvte]; exact HZV.out.1.get _
  have HVTE := Lib.hid hvte
  clear HSA HSB HCMP HU1 HU2 HU3 HGU HGV HOU hcell1 hr2 hnq hvte
  go_wp2
  have HROW0 := Lib.hid (Row.new (k := .i64) (t := 3) w3 (zeroL qn))
  have HUQ := Lib.hid (Up.alloc w3 (.cells (rowOf .i64 (zeroL qn)) 3))
  generalize w3.alloc (.cells (rowOf .i64 (zeroL qn)) 3) = wA at *
  clear hmk
  go_loopw [12] (fun jv wr => ∃ (i : Nat) (us qs : List Nat), jv = .int .i64 ((i : Int) - 1) ∧ i ≤ qn ∧ Hid (DivAt 1073741824 (m * f) (k * f) (n + 1) (ds.length + 1) us qs i) ∧ OwR wr gu cu us ∧ OwR wr gv cv zv ∧ Row .i64 3 wr w3.heap.size qs ∧ Up w wr) (fun jv _ => (intOf jv + 1).toNat)
  case atStart => exact ⟨qn, zu, zeroL qn, rfl, Nat.le_refl _, HST, HOU3.out.up HUQ.out, HOV.out.up HUQ.out, HROW0.out, HUW.out.trans HUQ.out⟩
  case round =>
    obtain ⟨i, us, qs, rfl, hi, HD, hou, hov, hrow, hup⟩ := hrel
    have hul := HD.out.ulen
    have hcu : us.length ≤ cu := by obtain ⟨_, _, _, h, _⟩ := hou; exact h
    by_cases h0 : i = 0
    · subst h0
      have hdone := HD.out.done (by rw [Nat.mul_comm]; exact Nat.le_of_lt (by have := HV.out.1; rw [Nat.mul_comm]; exact this)) HF0.out.1 (by
        have h1 := HV.out.2.2
        have h2 : 0 < 1073741824 ^ n := Nat.pow_pos (by omega)
        omega)
      have HDN := Lib.hid hdone
      have HQ := Lib.hid (And.intro HD.out.qok HD.out.qlen)
      have hse : es.length = n + 1 := HL.out
      have hsl := hou.sl 0 es.length cu (by have := HLEN.out; omega) (by have := HLEN.out; omega) (by obtain ⟨_, _, _, _, h, _⟩ := hou; exact h)
      rw [List.drop_zero] at hsl
      have hcu2 : es.length ≤ cu := by have := HLEN.out; omega
      have hsh := refShorter_any _ _ f wr hsl (HD.out.uok.take _) HF0.out.1 HF0.out.2 (by rw [List.length_take]; omega)
      have hlt : (us.take es.length).length = es.length := by rw [List.length_take]; have := HLEN.out; omega
      rw [hlt] at hsh
      have HSH := Lib.hid hsh
      have HROW := Lib.hid hrow
      have HUP := Lib.hid hup
      clear hdone hse hsl hsh hlt HD hou hov hrow hup
      go_wp2_with fail
      refine Calls.mono HSH.out ?_
      rintro e w8 ⟨g8, xs, rfl, hg8, hrow8, hok8, hv8, hl8, hu8⟩
      have HR8 := Lib.hid (And.intro hok8 (And.intro hv8 hl8))
      have HROW8 := Lib.hid hrow8
      have HU8 := Lib.hid hu8
      clear hg8 hrow8 hok8 hv8 hl8 hu8
      go_wp2
      go_ret2
      have hq1 := HQ.out.2
      have hq2 : qs.length = qn := by have := HL.out; have := HNQ.out; omega
      refine ⟨.slice (some ⟨w3.heap.size, 0, none⟩) qn qn, .slice (some ⟨g8, 0, none⟩) es.length es.length, qs, xs, rfl, ⟨_, _, by rw [hq2], by omega, by unfold maxLen; omega, Rd.of_row0 (HROW.out.up HU8.out)⟩, HQ.out.1, HDN.out.1, ⟨_, _, by rw [HR8.out.2.2], by rw [HR8.out.2.2]; exact Nat.le_refl _, by unfold maxLen; omega, Rd.of_row0 HROW8.out⟩, HR8.out.1, ?_, HUP.out.trans HU8.out⟩
      rw [HR8.out.2.1, HL.out, HDN.out.2]
    · obtain ⟨j, rfl⟩ : ∃ j, i = j + 1 := ⟨i - 1, by omega⟩
      have hvte := HVTE.out
      have hjl : j + es.length < us.length := by have := HD.out.kle; have := HL.out; omega
      have hjn : j + n < us.length := by have := HL.out; omega
      have hVle : k * f ≤ 1073741824 ^ (n + 1) := Nat.le_of_lt HV.out.1
      have hwin := HD.out.window hVle
      have hgs := HD.out.guess (vs := zv.take (n + 1)) (by omega) hVle HVS.out.1 HVS.out.2.1 (by have := HL.out; omega) hjn (by rw [HVS.out.2.1]; omega) (by rw [List.getElem_take, ← hvte]; exact HVT.out)
      have e9 : us[j + n + 1]'(by have := HL.out; omega) = us[j + es.length] := by congr 1; have := HL.out; omega
      rw [List.getElem_take, ← hvte, e9] at hgs
      have hc1 := hou.cell hjl
      have hc2' := hou.cell hjn
      have hc3 : wr.cell? ⟨gv, n, none⟩ = some (.int .i64 (vt : Nat)) := by rw [hvte]; exact hov.cell _
      have hy1b := HD.out.uok.get hjl
      have hy0b := HD.out.uok.get hjn
      obtain ⟨y1, hy1⟩ : ∃ y1, y1 = us[j + es.length] := ⟨_, rfl⟩
      obtain ⟨y0, hy0⟩ : ∃ y0, y0 = us[j + n] := ⟨_, rfl⟩
      rw [← hy1] at hc1 hy1b hgs
      rw [← hy0] at hc2' hy0b hgs
      obtain ⟨W, hW⟩ : ∃ W, W = val 1073741824 (us.drop j) := ⟨_, rfl⟩
      obtain ⟨Q, hQ⟩ : ∃ Q, Q = W / (k * f) := ⟨_, rfl⟩
      rw [← hW] at hgs hwin
      rw [← hQ] at hgs hwin
      obtain ⟨tq, htq⟩ : ∃ tq, tq = (y1 * 1073741824 + y0) / vt := ⟨_, rfl⟩
      rw [← htq] at hgs
      have hvt1 : 0 < vt := HVT.out
      have htqI : ((y1 : Int) * 1073741824 + (y0 : Int)) / (vt : Int) = (tq : Int) := by
        rw [htq, Int.natCast_ediv]; simp
      have htqb : tq < 1152921504606846976 := by
        rw [htq]
        exact Nat.lt_of_le_of_lt (Nat.div_le_self _ _) (by omega)
      have HWIN := Lib.hid hwin
      have HGS := Lib.hid hgs
      have HW := Lib.hid hW
      have HQ := Lib.hid hQ
      have hj0 : (0 : Int) ≤ (j : Int) := by omega
      have hjI : (j : Int) + (es.length : Int) - 1 = ((j + n : Nat) : Int) := by omega
      have hjJ : ((j : Int) + (es.length : Int)).toNat = j + es.length := by omega
      have hjK : (j : Int) + (es.length : Int) < (ds.length : Int) + 1 := by omega
      have hjM : ((j + n : Nat) : Int) < (ds.length : Int) + 1 := by omega
      have hjN : (((j + n : Nat) : Int)).toNat = j + n := Int.toNat_natCast _
      rw [show ((j + 1 : Nat) : Int) - 1 = (j : Int) by omega]
      clear hwin hgs hW hQ htq hy1 hy0 e9 hvte
      go_upto_region 13 with fail
      go_quiet (fail)
      obtain ⟨wo, hwo⟩ : ∃ wo, wo = wr.drewN nq := ⟨_, rfl⟩
      have HOUO := Lib.hid (show OwR wo gu cu us by rw [hwo]; exact hou.drewN _)
      have HOVO := Lib.hid (show OwR wo gv cv zv by rw [hwo]; exact hov.drewN _)
      have HROWO := Lib.hid (show Row .i64 3 wo w3.heap.size qs by rw [hwo]; exact hrow.drewN _)
      have HUPO := Lib.hid (show Up w wo by rw [hwo]; exact hup.trans (Up.drewN _ _))
      rw [← hwo]
      have hmin : (if (1073741823 : Int) < (tq : Int) then (1073741823 : Int) else (tq : Int)) = ((min tq 1073741823 : Nat) : Int) := by
        split <;> omega
      rw [hmin]
      have hE : Q ≤ min tq 1073741823 := by
        have q1 := HWIN.out.2.2
        have q2 := HGS.out
        omega
      generalize hE0 : min tq 1073741823 = e0 at *
      have he0 : e0 ≤ 1073741823 := by omega
      have HE0 := Lib.hid hE
      clear hwo hou hov hrow hup hmin hE hE0 htqI htqb hc1 hc2' hc3
      go_wp2
      go_loopw [13] (fun ev wr => ∃ e : Nat, ev = .int .i64 e ∧ Q ≤ e ∧ e ≤ 1073741823 ∧ Up wo wr) (fun ev _ => (intOf ev).toNat)
      case atStart => exact ⟨e0, rfl, HE0.out, he0, Up.refl _⟩
      case round =>
        obtain ⟨e, rfl, hQe, heb, hup⟩ := hrel
        have hou := HOUO.out.up hup
        have hov := HOVO.out.up hup
        have hslv := hov.sl 0 es.length cv (by omega) hcv (by obtain ⟨_, _, _, _, h, _⟩ := hov; exact h)
        rw [List.drop_zero] at hslv
        have hlv2 : (zv.take es.length).length = es.length := by rw [List.length_take]; omega
        have hsc := refScaled_any _ _ e wr hslv (HZV.out.1.take _) (by omega) (by rw [hlv2]; omega)
        rw [hlv2] at hsc
        have hvv : val 1073741824 (zv.take es.length) = k * f := by rw [HL.out]; exact HVS.out.1
        rw [hvv] at hsc
        obtain ⟨Z, hZe⟩ : ∃ Z, Z = k * f * e := ⟨_, rfl⟩
        rw [← hZe] at hsc
        have HZE := Lib.hid hZe
        have HSC := Lib.hid hsc
        have HUPR := Lib.hid hup
        have HOUR := Lib.hid hou
        clear hou hov hslv hlv2 hsc hvv hZe
        go_wp2_with fail
        refine Calls.mono HSC.out ?_
        rintro e' w8 ⟨p0, zp, rfl, howp, hokp, hvp, hlp, hu8⟩
        obtain ⟨gp, cp, rfl, hgp, hop⟩ := howp.owR (by intro e; rw [e] at hlp; simp at hlp)
        have HU8 := Lib.hid hu8
        have HOP := Lib.hid hop
        have HZP := Lib.hid (And.intro hokp hvp)
        have HSLP := Lib.hid howp.sl
        clear howp hokp hvp hu8 hop hgp
        go_upto_region 15 with fail
        have HOU8 := Lib.hid (HOUR.out.up HU8.out)
        have hdt := digs_take (B := 1073741824) (by omega) HZP.out.1
        rw [HZP.out.2] at hdt
        have hslp := HSLP.out
        obtain ⟨Ap, cp', hep, hcp1, hcp2, hrdp⟩ := hslp
        injection hep with hep1 hep2 hep3
        subst hep1 hep3
        have HP1 : Hid (Ev w8 (.slice (some ⟨gp, 0, none⟩) (digs 1073741824 (Z)).length cp) (Z)) := ⟨_, _, rfl, Nat.le_trans hdt.1 hcp1, hcp2, hdt.2 ▸ hrdp.take _⟩
        have HTR := Lib.hid (fun W (hu : Up w8 W) => refTrim_any (some ⟨gp, 0, none⟩) cp zp W hcp1 hcp2 (hrdp.up hu) HZP.out.1)
        rw [HZP.out.2, hlp] at HTR
        clear hdt hep2 hcp1 hcp2 hrdp
        have hjw : j + (es.length + 1) ≤ us.length := by omega
        have hjc : j + es.length + 1 ≤ cu := by omega
        have hs1 : (j : Int) + (es.length : Int) + 1 ≤ (cu : Int) := by omega
        have hs2 : (j : Int) ≤ (j : Int) + (es.length : Int) + 1 := by omega
        have hs3 : ((j : Int) + (es.length : Int) + 1).toNat = j + es.length + 1 := by omega
        have hs4 : j + es.length + 1 - j = es.length + 1 := by omega
        have hs5 : (j : Int) ≤ (cu : Int) := by omega
        have hs6 : IntKind.i64.wrap ((j : Int) + (es.length : Int)) = (j : Int) + (es.length : Int) := IntWalk.i64_in _ ⟨by omega, by omega⟩
        have hs7 : IntKind.i64.wrap ((j : Int) + (es.length : Int) + 1) = (j : Int) + (es.length : Int) + 1 := IntWalk.i64_in _ ⟨by omega, by omega⟩
        obtain ⟨i0, hi0, hz0, hz1, hz2⟩ := info_parts info_i64
        have hwl : ((us.drop j).take (es.length + 1)).length = es.length + 1 := by rw [List.length_take, List.length_drop]; omega
        have hwok : Ok 1073741824 ((us.drop j).take (es.length + 1)) := (HD.out.uok.drop j).take _
        have HWV : Hid (val 1073741824 ((us.drop j).take (es.length + 1)) = W) := by
          have q1 := HWIN.out.1
          unfold Hid
          rw [HL.out]; exact q1
        have HWL := Lib.hid (And.intro hwl hwok)
        clear hwl hwok
        go_region_held3 (fun w' => True) (exact trivial)
          ((first
            | (go_at_call_of 144 v9
               refine Calls.mono (refTrim_sl _ _ _ HOW9.out.sl HWL.out.2) ?_
               rintro e' w11 ⟨p2, rfl, hp2, hw11⟩
               subst hw11
               rw [HWV.out] at hp2
               have HP2 := Lib.hid hp2
               clear hp2)
            | (go_at_call 144
               refine Calls.mono (HTR.out _ (by (repeat (first | exact Below.refl _ _ | exact Hid.out (by assumption) | refine Up.trans ?_ (Up.drew _) | refine Up.trans ?_ (Up.drewN _ _) | refine Up.trans ?_ (Up.alloc _ _) | refine Up.trans ?_ (Hid.out (by assumption)))))) ?_
               rintro e' w9 ⟨rfl, hw9⟩
               subst hw9)
            | (go_at_call 112
               have HU11 := Lib.hid (show Up w8 w10 by (repeat (first | exact Below.refl _ _ | exact Hid.out (by assumption) | refine Up.trans ?_ (Up.drew _) | refine Up.trans ?_ (Up.drewN _ _) | refine Up.trans ?_ (Up.alloc _ _) | refine Up.trans ?_ (Hid.out (by assumption)))))
               refine Calls.mono (refCmp_any _ _ _ _ _ (Sl.up HP1.out HU11.out) HP2.out) ?_
               rintro e' w12 ⟨rfl, q9, rfl⟩)
            | (refine step_append_grows rfl (.tmp 95) (.tmp 102) 26 rfl 3 i0 (.int .i64 0) 1 8 Tryz.underlying26 hi0 hz0 hz1 hz2 rfl (by decide) (some ⟨_, 0, none⟩) 0 0 [] rfl (fun h => by cases h) rfl (fun _ _ j u h => by simp at h) ⟨gu, j, none⟩ (es.length + 1) (cu - j) (((us.drop j).take (es.length + 1)).map fun d : Nat => Value.int .i64 (d : Int)) rfl (by rw [List.length_map, HWL.out.1, Nat.mul_one]) ((HOU8.out.up (show Up w8 _ by (repeat (first | exact Below.refl _ _ | exact Hid.out (by assumption) | refine Up.trans ?_ (Up.drew _) | refine Up.trans ?_ (Up.drewN _ _) | refine Up.trans ?_ (Up.alloc _ _) | refine Up.trans ?_ (Hid.out (by assumption)))))).win j (es.length + 1) hjw) (fun u hu => by rw [List.mem_map] at hu; obtain ⟨d, -, rfl⟩ := hu; rfl) (by omega) (by unfold maxLen; omega) (by omega) ?_
               intro v9 w10 hown9 hgr9
               have HU10 := Lib.hid (Up.ofNone hgr9)
               have HOW9 := Lib.hid (Ow.ofNews hown9 HWL.out.1)
               clear hown9 hgr9)))
        all_goals
          have HUE := Lib.hid ((HU8.out.trans HU11.out).trans (Up.drewN w10 q9))
          have HOUE := Lib.hid (HOU8.out.up (HU11.out.trans (Up.drewN w10 q9)))
          have HSLE := Lib.hid (Sl.up HSLP.out (HU11.out.trans (Up.drewN w10 q9)))
          obtain ⟨wE, hwE⟩ : ∃ wE, wE = w10.drewN q9 := ⟨_, rfl⟩
          rw [← hwE] at HUE HOUE HSLE ⊢
          clear HTR HOW9 HP1 HP2 HU10 HU11 hwE
          have hkf : 0 < k * f := by
            have h1 := HV.out.2.1
            have h2 : 0 < 1073741824 ^ n := Nat.pow_pos (by omega)
            omega
          have hQ := HQ.out
          have HSPLIT : Hid ((W < Z → Q < e) ∧ (Z ≤ W → e = Q)) := by
            refine ⟨fun h => ?_, fun h => ?_⟩
            · rw [HZE.out] at h; rw [hQ, Nat.div_lt_iff_lt_mul hkf, Nat.mul_comm]; exact h
            · rw [HZE.out] at h
              have h3 : e ≤ Q := by rw [hQ, Nat.le_div_iff_mul_le hkf, Nat.mul_comm]; exact h
              omega
          clear hQ
          rcases Nat.lt_or_ge W (Z) with hlt | hge
          · have hqe := HSPLIT.out.1 hlt
            have hzw : (0 : Int) < (Z : Int) - (W : Int) := by omega
            go_wp2_with fail
            go_roundw
            case rel => exact ⟨e - 1, by congr 1; omega, by omega, by omega, HUPR.out.trans HUE.out⟩
            case measure => simp [intOf]; omega
          · have heq := HSPLIT.out.2 hge
            have hzw : (Z : Int) - (W : Int) ≤ 0 := by omega
            have HGE := Lib.hid hge
            have HEQ := Lib.hid heq
            clear heq hQe
            have hslw := HOUE.out.sl j (es.length + 1) (cu - j) hjw (by omega) (Nat.le_trans (Nat.sub_le _ _) HOUE.out.capb)
            have hdf := refDif_any _ _ _ _ wE hslw HSLE.out HWL.out.2 HZP.out.1 (by rw [HWL.out.1, hlp]; exact Nat.le_refl _) (by rw [HWV.out, HZP.out.2]; exact HGE.out) (by rw [HWL.out.1]; omega)
            rw [HWV.out, HZP.out.2, HWL.out.1, hlp] at hdf
            have HDF := Lib.hid hdf
            clear hslw hdf
            go_wp2_with fail
            refine Calls.mono HDF.out ?_
            rintro e' wD ⟨dv, zd, rfl, howd, hokd, hvd, hld, hud⟩
            obtain ⟨gd, cd, rfl, hgd, hod⟩ := howd.owR (by intro h; rw [h] at hld; simp at hld)
            have hupall := (HUPR.out.trans HUE.out).trans hud
            have hou9 := HOUE.out.up hud
            obtain ⟨cur, hcur, hfit, hnew⟩ := hou9.spliced (ds := zd) j (by rw [hld]; omega)
            have hq1 := HD.out.qlen
            have hjq : j < qs.length := by have := HL.out; have := HNQ.out; omega
            have hbu := HBU.out
            have hov9 := HOVO.out.up hupall
            have hrow9 := HROWO.out.up hupall
            have hup9 := HUPO.out.trans hupall
            have hsrc := hod.win 0 zd.length (by omega)
            rw [List.drop_zero, List.take_length] at hsrc
            have hupF := below_setRow hup9 hbu.1 (cur.toList.take j ++ ((zd.map fun d : Nat => Value.int .i64 (d : Int)) ++ cur.toList.drop (j + (zd.map fun d : Nat => Value.int .i64 (d : Int)).length))).toArray
            have hovF := hov9.block (setRow_other wD gu gv (cur.toList.take j ++ ((zd.map fun d : Nat => Value.int .i64 (d : Int)) ++ cur.toList.drop (j + (zd.map fun d : Nat => Value.int .i64 (d : Int)).length))).toArray (by omega))
            have hrowF : Row .i64 3 (wD.setRow gu (cur.toList.take j ++ ((zd.map fun d : Nat => Value.int .i64 (d : Int)) ++ cur.toList.drop (j + (zd.map fun d : Nat => Value.int .i64 (d : Int)).length))).toArray) w3.heap.size qs := (setRow_other wD gu w3.heap.size _ (by omega)).trans hrow9
            obtain ⟨wF, hwF⟩ : ∃ wF, wF = wD.setRow gu (cur.toList.take j ++ ((zd.map fun d : Nat => Value.int .i64 (d : Int)) ++ cur.toList.drop (j + (zd.map fun d : Nat => Value.int .i64 (d : Int)).length))).toArray := ⟨_, rfl⟩
            rw [← hwF] at hnew hupF hovF hrowF
            have HNEW := Lib.hid hnew
            have HUPF := Lib.hid hupF
            have HOVF := Lib.hid hovF
            have HROWF := Lib.hid hrowF
            have HWF := Lib.hid hwF
            have HSRC := Lib.hid hsrc
            have HCUR := Lib.hid (And.intro hcur hfit)
            have HZD := Lib.hid (And.intro hokd hvd)
            have hqc := hrowF.cell hjq
            have hqf := hrowF.frozen j
            have hjq2 : (j : Int) < (qn : Int) := by have := HNQ.out; have := HL.out; omega
            have hsl1 : (j : Int) ≤ (ds.length : Int) + 1 := by omega
            clear howd hokd hvd hud hgd hod hupall hou9 hcur hfit hnew hov9 hrow9 hup9 hsrc hupF hovF hrowF hwF hbu
            go_wp2_with (refine wpList_copy_own rfl (.tmp 118) (.tmp 119) 26 26 rfl 3 Tryz.underlying26 size_i64 gu j (ds.length + 1 - j) (cu - j) ⟨gd, 0, none⟩ (es.length + 1) cd rfl rfl cur 3 HCUR.out.1 (zd.map fun d : Nat => Value.int .i64 (d : Int)) (by rw [List.length_map, hld]; exact (Nat.min_eq_left (by omega)).symm) HSRC.out HCUR.out.2 (fun u hu => by rw [List.mem_map] at hu; obtain ⟨d, -, rfl⟩ := hu; rfl) ?_; rw [← HWF.out])
            go_roundw
            case rel =>
              have hse := HL.out
              have hbu := HBU.out
              have hnext := HD.out.next (Nat.le_of_lt HV.out.1) hkf e (by rw [HEQ.out, HQ.out, HW.out]) zd (by rw [HZD.out.2, HZE.out, HW.out, Nat.mul_comm e]) (by rw [hld, hse]) HZD.out.1
              have e1 : j + zd.length = j + (n + 1 + 1) := by rw [hld, hse]
              have hnew := HNEW.out
              rw [e1] at hnew
              exact ⟨j, _, _, rfl, by omega, hnext, hnew.block (Below.heap_setCell _ ⟨w3.heap.size, j, none⟩ _ gu (show gu ≠ w3.heap.size by omega)), HOVF.out.block (Below.heap_setCell _ ⟨w3.heap.size, j, none⟩ _ gv (show gv ≠ w3.heap.size by omega)), HROWF.out.set j e, up_setCell HUPF.out (HUW.out.size) _ _⟩
            case measure => simp [intOf]
end Go.Proofs.YtacbjbnocepnaaaGreatDoor

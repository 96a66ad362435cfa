/- The program's CastLabels: the visit of one cast. The program's CastLabels: sorted, compacted. -/
import Derived.Test.YtbmlodikfmpfoaaDoorLbA
import Derived.Test.YtbmlodikfmpfoaaDoorSrt
import Derived.Sort.OwnSortedInts
namespace Go.Proofs.YtbmlodikfmpfoaaDoor
open Go.RowKit

theorem callOk_lb : CallOkT 70 := fun _ _ => by kernel_rfl

/-- The variable of block M holds a slice of the call's own that reads as the numbers ds. -/
def LabAt (M B : Nat) (ds : List Int) (v : Value) (w : World) : Prop := w.heap[M]? = some (.cells #[v] 45 (0, 0)) ∧ GrowI B ds v w ∧ M < B

theorem LabAt.below {M B : Nat} {ds : List Int} {v : Value} {w w' : World} (h : LabAt M B ds v w) (hb : Below w.heap.size w w') : LabAt M B ds v w' := ⟨blk h.1 hb, h.2.1.below hb, h.2.2⟩

theorem GrowI.setCell {B : Nat} {ds : List Int} {v : Value} {w : World} (h : GrowI B ds v w) {p : Addr} (hp : p.block < B) (u : Value) : GrowI B ds v (w.setCell p u) := ownsRow_setCell_below h hp u

theorem lab_close {w w0 w1 w3 : World} {M B g n cp : Nat} {ds : List Int} {x : Int} {v vold : Value} {o : Obj} (hO : w0.heap[M]? = some (.cells #[vold] 45 (0, 0))) (hG : GrowI B ds v w0) (hb0 : Below w.heap.size w w0) (hw1 : w1 = w0.alloc o) (hg : w1.grownBy w3 v.ownBlock)
    (hown : w3.ownsRow B 3 1 (.slice (some ⟨g, 0, none⟩) n cp) n (ds.map (Value.int .i64) ++ [.int .i64 x])) (hn : n = ds.length + 1) (hat : v.ownBlock = some g ∨ g = w1.heap.size) (hMB : M < B) (_hB : B ≤ w0.heap.size) :
    LabAt M B (ds ++ [x]) (.slice (some ⟨g, 0, none⟩) n cp) (w3.setCell ⟨M, 0, none⟩ (.slice (some ⟨g, 0, none⟩) n cp)) ∧ Lr M w (w3.setCell ⟨M, 0, none⟩ (.slice (some ⟨g, 0, none⟩) n cp)) v (.slice (some ⟨g, 0, none⟩) n cp) := by
  have hb1 : Below w0.heap.size w0 w1 := by rw [hw1]; exact (Below.refl _ _).alloc (Nat.le_refl _) _
  have hMo : some M ≠ v.ownBlock := fun e => by have := (hG.own_ge M e.symm).1; omega
  have hM1 := blk hO hb1
  have hM3 := (hg.block M (lt_of_block hM1) hMo).trans hM1
  have s0 := hb0.size
  have s1 := hb1.size
  have s2 := hg.size
  refine ⟨⟨heap_setCell_at hM3 _, (GrowI.snoc hown hn).setCell (p := ⟨M, 0, none⟩) hMB _, hMB⟩, ⟨⟨?_, ?_, ?_, ?_⟩, fun k hk hkM hne => ?_, ?_⟩⟩
  · exact hg.os.trans (hb1.os.trans hb0.os)
  · exact hg.tape.trans (hb1.tape.trans hb0.tape)
  · exact hg.output.trans (hb1.output.trans hb0.output)
  · rw [size_setCell]
    omega
  · rw [Below.heap_setCell _ _ _ _ hkM, hg.block k (by omega) hne, hb1.block k (by omega), hb0.block k hk]
  · rcases hat with h | h
    · exact .inl h.symm
    · exact .inr ⟨g, rfl, by omega⟩

set_option maxRecDepth 100000 in
set_option maxHeartbeats 4000000 in
theorem visitLb (M B : Nat) : VisC 70 #[.pointer (some ⟨M, 0, none⟩)] M B (LabAt M B) List.length lbStep := by
  intro ds v nm num ty fr lb ts k1 n1 a1 c1 k2 n2 a2 c2 a3 c3 fp w hS hat hown4 hfp hBw hlen
  obtain ⟨hO, hG, hMB⟩ := hS
  obtain ⟨av, capv, rfl⟩ := hG.shape
  obtain ⟨i0, hi0, hz0, hz1, hz2⟩ := info_parts (P := Tryd.prog) (e := 3) Tryd.infoInt
  have hb0 : Below w.heap.size w (w.alloc (Obj.cells #[.int .i64 14, .string nm, .int .i64 num, .int .i64 k1, .slice a1 n1 c1, .int .i64 k2, .slice a2 n2 c2, .int .i64 lb, .slice a3 ts.length c3] 34)) := (Below.refl _ _).alloc (Nat.le_refl _) _
  have hs0 : ((w.alloc (Obj.cells #[.int .i64 14, .string nm, .int .i64 num, .int .i64 k1, .slice a1 n1 c1, .int .i64 k2, .slice a2 n2 c2, .int .i64 lb, .slice a3 ts.length c3] 34))).heap.size = w.heap.size + 1 := by simp
  have HGW := hid (hG.below hb0)
  have HO1 := hid (blk hO hb0)
  have HOWN := hid HGW.out.own_ge
  have HBW := hid (Nat.le_trans hBw hb0.size)
  have hMlt : M < w.heap.size := by omega
  obtain ⟨x0, x1, x2, x3, x4, x5, x6, x7, x8⟩ := box9 (Below.refl ((w.alloc (Obj.cells #[.int .i64 14, .string nm, .int .i64 num, .int .i64 k1, .slice a1 n1 c1, .int .i64 k2, .slice a2 n2 c2, .int .i64 lb, .slice a3 ts.length c3] 34))).heap.size (w.alloc (Obj.cells #[.int .i64 14, .string nm, .int .i64 num, .int .i64 k1, .slice a1 n1 c1, .int .i64 k2, .slice a2 n2 c2, .int .i64 lb, .slice a3 ts.length c3] 34)))
  have yM : ((w.alloc (Obj.cells #[.int .i64 14, .string nm, .int .i64 num, .int .i64 k1, .slice a1 n1 c1, .int .i64 k2, .slice a2 n2 c2, .int .i64 lb, .slice a3 ts.length c3] 34))).cell? ⟨M, 0, none⟩ = some (.slice av ds.length capv) := by rw [cell_of_block HO1.out]; rfl
  have hal0 : Below ((w.alloc (Obj.cells #[.int .i64 14, .string nm, .int .i64 num, .int .i64 k1, .slice a1 n1 c1, .int .i64 k2, .slice a2 n2 c2, .int .i64 lb, .slice a3 ts.length c3] 34))).heap.size (w.alloc (Obj.cells #[.int .i64 14, .string nm, .int .i64 num, .int .i64 k1, .slice a1 n1 c1, .int .i64 k2, .slice a2 n2 c2, .int .i64 lb, .slice a3 ts.length c3] 34)) (((w.alloc (Obj.cells #[.int .i64 14, .string nm, .int .i64 num, .int .i64 k1, .slice a1 n1 c1, .int .i64 k2, .slice a2 n2 c2, .int .i64 lb, .slice a3 ts.length c3] 34))).alloc (Obj.cells #[.int .i64 lb] 3)) := (Below.refl _ _).alloc (Nat.le_refl _) _
  have zM := cell_keep yM hal0
  have HNEW := hid (show (((w.alloc (Obj.cells #[.int .i64 14, .string nm, .int .i64 num, .int .i64 k1, .slice a1 n1 c1, .int .i64 k2, .slice a2 n2 c2, .int .i64 lb, .slice a3 ts.length c3] 34))).alloc (Obj.cells #[.int .i64 lb] 3)).heap[w.heap.size + 1]? = some (Obj.cells #[.int .i64 lb] 3) by have := alloc_new ((w.alloc (Obj.cells #[.int .i64 14, .string nm, .int .i64 num, .int .i64 k1, .slice a1 n1 c1, .int .i64 k2, .slice a2 n2 c2, .int .i64 lb, .slice a3 ts.length c3] 34))) (Obj.cells #[.int .i64 lb] 3); simpa using this)
  clear hat hO hG hown4 hfp
  go_enter Tryd.func70, Tryd.ntmps70
  go_wp2_with (refine wpList_append_lies _ rfl (.tmp 3) (.tmp 6) 45 rfl B 3 i0 _ 1 8 Tryd.underInts hi0 hz0 hz1 hz2 rfl (by omega) (.slice av ds.length capv) ds.length (ds.map (Value.int .i64)) rfl (World.ownsRow.alloc HGW.out _) ⟨w.heap.size + 1, 0, none⟩ 1 1 [.int .i64 lb] rfl rfl (World.news_of_block (cs := #[.int .i64 lb]) (t := 3) (fr := (0, 0)) HNEW.out) (by simp [Value.oneCell']) (by omega) (by unfold maxLen; omega) (by omega) (by simp; omega) (w.heap.size + 1 + 1) (by simp) ?_; intro g3 cp w3 hown3 hgrow hat3 hlt3; have mF := m_frozen hgrow HOWN.out hMB (blk HO1.out hal0); have m0 := m_cell hgrow HOWN.out hMB zM; clear yM zM)
  have HF := hid (lab_close (w := w) HO1.out HGW.out hb0 rfl hgrow hown3 rfl (by simpa using hat3) hMB HBW.out)
  clear hown3 hgrow hat3 hlt3 m0 mF
  first | go_ret | go_end0 | (go_wp2_with fail; first | go_ret | go_end0)
  obtain ⟨q1, q2⟩ := HF.out
  exact ⟨⟨_, rfl⟩, _, q1, q2⟩

theorem GrowI.holds {B : Nat} {ds : List Int} {g n cap : Nat} {w : World} (h : GrowI B ds (.slice (some ⟨g, 0, none⟩) n cap) w) : Sort.Holds (Value.int .i64) w g 0 ds.toArray ∧ g < w.heap.size ∧ B ≤ g ∧ ds.length ≤ cap ∧ ds.length = n := by
  rcases h.2 with ⟨h0, _⟩ | ⟨g', cap', cur, e, hb, hg, hc, hm, hsz, hx⟩
  · cases h0
  · cases e
    exact ⟨holds_of_blockI hg (by simpa using hx), lt_of_block hg, hb, hc, rfl⟩

/-- Sorted in its own place. -/
theorem sort_own (B : Nat) (zs : List Int) (v : Value) (w : World) (h : GrowI B zs v w) (hB : B ≤ w.heap.size) (hl : zs.length ≤ 4194300) :
    Calls Tryd.prog 71 #[v] w fun e w' => e = .returned (.tuple #[]) ∧ GrowI B (zs.mergeSort fun x y => decide (x ≤ y)) v w' ∧ Lr B w w' v v := by
  have hlen : (zs.mergeSort fun x y => decide (x ≤ y)).length = zs.length := List.length_mergeSort zs
  have h0 := h
  rcases h0.2 with ⟨rfl, hz⟩ | ⟨g, cap, cur, rfl, hb, hg, hc, hm, hsz, hx⟩
  · have : zs = [] := List.length_eq_zero_iff.1 hz
    subst this
    refine (Any.slices_Sort_int_none srtLays189 none 0 w).mono ?_
    rintro e w' ⟨rfl, rfl⟩
    exact ⟨rfl, by simpa using h, Lr.of_below (Below.refl _ _) _⟩
  · obtain ⟨hH, hlt, _, _, _⟩ := h.holds
    refine (sortInts g 0 cap zs w hH hlt (by omega)).mono ?_
    rintro e w' ⟨rfl, n, os, rfl⟩
    have hgr := grownBy_sortedI (n := n) (os := os) (g := g) (w := w) (zs.mergeSort fun x y => decide (x ≤ y)).toArray
    refine ⟨rfl, ?_, ⟨⟨hgr.os, hgr.tape, hgr.output, hgr.size⟩, fun k hk _ hn => hgr.block k hk hn, .inl rfl⟩⟩
    unfold GrowI
    rw [hlen]
    exact ownsRow_sortedI hlen hb hg hc hm hsz

/-- One of each, in its own place. -/
theorem compact_own (B : Nat) (zs : List Int) (v : Value) (w : World) (h : GrowI B zs v w) (hB : B ≤ w.heap.size) (hl : zs.length ≤ 4194300) :
    Calls Tryd.prog 72 #[v] w fun e w' => ∃ v', e = .returned v' ∧ GrowI B (Lib.compact zs) v' w' ∧ Lr B w w' v v' := by
  have h0 := h
  rcases h0.2 with ⟨rfl, hz⟩ | ⟨g, cap, cur, rfl, hb, hg, hc, hm, hsz, hx⟩
  · have : zs = [] := List.length_eq_zero_iff.1 hz
    subst this
    refine (Any.slices_Compact_int_empty cpcLays20 none 0 w).mono ?_
    rintro e w' ⟨rfl, rfl⟩
    exact ⟨_, rfl, by simpa [Lib.compact, Lib.compactUpTo] using h, Lr.of_below (Below.refl _ _) _⟩
  · obtain ⟨hH, hlt, _, _, _⟩ := h.holds
    refine (compactInts g 0 cap zs w hH (by omega) hc).mono ?_
    rintro e w' ⟨rfl, q, rfl⟩
    have hle : (Lib.compact zs).length ≤ zs.length := by
      unfold Lib.compact Lib.compactUpTo
      rw [List.length_map]
      have := List.length_filter_le (Lib.keeps zs.toArray) (List.range zs.length)
      simpa using this
    generalize hD : (Lib.compact zs ++ List.replicate (zs.length - (Lib.compact zs).length) 0).toArray = D
    have hgr := grownBy_sortedI (n := q) (os := #[]) (g := g) (w := w) D
    have hhp := heap_sortedI (n := q) (os := #[]) D hg
    rw [Sort.grow_empty] at hgr hhp
    refine ⟨_, rfl, ⟨by simp, .inr ⟨g, cap, _, rfl, hb, hhp, by omega, hm, by simp [Sort.putCells, hsz], ?_⟩⟩, ⟨⟨hgr.os, hgr.tape, hgr.output, hgr.size⟩, fun k hk _ hn => hgr.block k hk hn, .inl rfl⟩⟩
    subst hD
    apply List.ext_getElem?
    intro j
    by_cases hj : j < (Lib.compact zs).length
    · rw [List.getElem?_take_of_lt (by omega), Array.getElem?_toList]
      have hj2 : j < cur.size := by omega
      simp [Sort.putCells, hj, hj2, List.getElem?_append_left]
      intro h1
      omega
    · rw [List.getElem?_take_eq_none (by omega), List.getElem?_eq_none (by simp; omega)]

theorem lbLst_eq (t : Tm) : Lib.compact ((ecN lbStep [] t).mergeSort fun x y => decide (x ≤ y)) = ecN srStep [] t := by
  rw [compact_sort, ← ecN_srt t []]
  rfl

set_option maxRecDepth 100000 in
set_option maxHeartbeats 2000000 in
theorem implCastLabels (t : Tm) (v : Value) (fp : List Nat) (w : World) (hsz : t.sz ≤ 1048576) (hF : Forms w) (hat : t.At w v fp) :
    Calls Tryd.prog 26 #[v] w (MadeI w (lbLst t)) := by
  have hlt := hat.lt
  have HLT := hid hlt
  clear hlt
  have hat0 := hat
  obtain ⟨k, nm, num, k1, n1, a1, c1, k2, n2, a2, c2, lb, n3, a3, c3, rfl⟩ := hat.agg
  have hb0 : Below w.heap.size w (w.alloc (Obj.cells #[.int .i64 k, .string nm, .int .i64 num, .int .i64 k1, .slice a1 n1 c1, .int .i64 k2, .slice a2 n2 c2, .int .i64 lb, .slice a3 n3 c3] 34)) := (Below.refl _ _).alloc (Nat.le_refl _) _
  have HV := hid (implCastValid t _ _ _ (hF.below hb0) (hat0.below hb0))
  have HT := hid (show lbLst t = if vldC t then ecN srStep [] t else [] from rfl)
  have HLN := hid (show (ecN lbStep [] t).length ≤ 2 * (t.sz + 1) by have := ecN_len lbStep List.length lbStep_len t []; simpa using this)
  have HEQ := hid (lbLst_eq t)
  have HSH := hid (show vldC t = true → shpC 40 t = true from fun h => by unfold vldC at h; simp only [Bool.and_eq_true] at h; exact h.1)
  generalize lbLst t = L at *
  generalize vldC t = r at *
  go_enter Tryd.func26, Tryd.ntmps26
  go_wp2_with fail
  refine HV.out.mono ?_
  rintro e w1 ⟨rfl, hb1⟩
  obtain ⟨z0, z1, z2, z3, z4, z5, z6, z7, z8⟩ := box9 hb1
  have b1 := below_trans hb0 hb1
  have hat2 := hat.below b1
  have hal : Below w1.heap.size w1 (w1.alloc (Obj.cells #[.slice none 0 0] 45)) := (Below.refl _ _).alloc (Nat.le_refl _) _
  cases r
  · have HFIN := hid (show MadeI w L (.returned (.slice none 0 0)) w1 from ⟨_, rfl, by rw [HT.out]; exact GrowI.zero _ _, b1⟩)
    go_wp2_with fail
    go_ret
    exact HFIN.out
  · have HSHP := hid (HSH.out rfl)
    replace z0 := cell_keep z0 hal
    replace z1 := cell_keep z1 hal
    replace z2 := cell_keep z2 hal
    replace z3 := cell_keep z3 hal
    replace z4 := cell_keep z4 hal
    replace z5 := cell_keep z5 hal
    replace z6 := cell_keep z6 hal
    replace z7 := cell_keep z7 hal
    replace z8 := cell_keep z8 hal
    have hs1 : (w1.alloc (Obj.cells #[.slice none 0 0] 45)).heap.size = w1.heap.size + 1 := by simp
    have HL := hid (show LabAt w1.heap.size (w1.heap.size + 1) [] (.slice none 0 0) (w1.alloc (Obj.cells #[.slice none 0 0] 45)) from ⟨alloc_new _ _, GrowI.zero _ _, Nat.lt_succ_self _⟩)
    have HAT := hid (hat2.below hal)
    have HLT1 := hid (show ∀ x ∈ fp, x < w1.heap.size from fun x hx => Nat.lt_of_lt_of_le (HLT.out x hx) b1.size)
    have hsz2 : ([] : List Int).length + 2 * (t.sz + 1) ≤ 4194300 := by simp only [List.length_nil]; omega
    have HS2 := hid hsz2
    have HB1 := hid b1
    have HAL := hid hal
    clear hat2 hsz2 b1
    go_wp2_with fail
    refine (eachCast_any 70 #[.pointer (some ⟨w1.heap.size, 0, none⟩)] w1.heap.size (w1.heap.size + 1) (LabAt w1.heap.size (w1.heap.size + 1)) List.length lbStep callOk_lb (Nat.lt_succ_self _) lbStep_len
      (fun a v w w' h hb => h.below hb) (fun a v w h => h.2.1.own_ge) (visitLb w1.heap.size (w1.heap.size + 1))
      t [] (.slice none 0 0) _ fp 40 _ HL.out HAT.out HLT1.out HSHP.out (Nat.le_of_eq hs1.symm) hsz HS2.out).mono ?_
    rintro e w3 ⟨⟨r3, rfl⟩, v3, ⟨hO3, hG3, hMB⟩, hr3⟩
    obtain ⟨a3', c3', rfl⟩ := hG3.shape
    have hc3 : w3.cell? ⟨w1.heap.size, 0, none⟩ = some (.slice a3' (ecN lbStep [] t).length c3') := by rw [cell_of_block hO3]; rfl
    have HB3 := hid (hr3.below hMB (Nat.le_of_eq hs1.symm) (fun b hb => by cases hb))
    have HS3 := hid hr3.1.2.2.2
    have HG3 := hid hG3
    have HO3 := hid hO3
    clear hG3 hO3 hr3 z0 z1 z2 z3 z4 z5 z6 z7 z8
    go_wp2_with fail
    refine (sort_own (w1.heap.size + 1) _ _ _ HG3.out (by have := HS3.out; omega) (by have := HLN.out; omega)).mono ?_
    rintro e w4 ⟨rfl, hG4, hr4⟩
    have hO4 := hr4.heap HO3.out (by omega) (fun e => by have := (HG3.out.own_ge _ e.symm).1; omega)
    have hc4 : w4.cell? ⟨w1.heap.size, 0, none⟩ = some (.slice a3' (ecN lbStep [] t).length c3') := by rw [cell_of_block hO4]; rfl
    have HB4 := hid (show Below (w1.heap.size + 1) w3 w4 from ⟨hr4.1.1, hr4.1.2.1, hr4.1.2.2.1, hr4.1.2.2.2, fun k hk => by
      by_cases e : k = w1.heap.size + 1
      · omega
      · exact hr4.2.1 k (by have := HS3.out; omega) e (fun e => by have := (HG3.out.own_ge _ e.symm).1; omega)⟩)
    have HG4 := hid hG4
    clear hG4 hO4 hr4 hc3
    go_wp2_with fail
    refine (compact_own (w1.heap.size + 1) _ _ _ HG4.out (by have := HS3.out; have := HB4.out.size; omega) (by have := HLN.out; rw [List.length_mergeSort]; omega)).mono ?_
    rintro e w5 ⟨v5, rfl, hG5, hr5⟩
    have HB5 := hid (show Below (w1.heap.size + 1) w4 w5 from ⟨hr5.1.1, hr5.1.2.1, hr5.1.2.2.1, hr5.1.2.2.2, fun k hk => by
      exact hr5.2.1 k (by have := HS3.out; have := HB4.out.size; omega) (by omega) (fun e => by have := (HG4.out.own_ge _ e.symm).1; omega)⟩)
    have HFIN := hid (show MadeI w L (.returned v5) w5 from ⟨v5, rfl, by rw [HT.out, if_pos trivial, ← HEQ.out]; exact hG5.mono (by have := HB1.out.size; omega), HB1.out.trans ((HAL.out.trans (HB3.out.trans ((HB4.out.mono (Nat.le_succ _)).trans (HB5.out.mono (Nat.le_succ _))))).mono HB1.out.size)⟩)
    clear hG5 hr5
    go_wp2_with fail
    go_ret
    exact HFIN.out

end Go.Proofs.YtbmlodikfmpfoaaDoor

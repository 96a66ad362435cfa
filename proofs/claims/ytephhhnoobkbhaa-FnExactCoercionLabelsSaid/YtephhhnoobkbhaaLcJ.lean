/- The program's CoercionLabels: sorted, compacted. -/
import Derived.Test.YtephhhnoobkbhaaLcI
import Derived.Test.YtephhhnoobkbhaaCw6
import Derived.Test.YtephhhnoobkbhaaSrt
import Derived.Sort.OwnSortedInts
namespace Go.Proofs.Ytephhhnoobkbhaa
open Go.RowKit

theorem GrowI.holds {B : Nat} {ds : List Int} {g n cap : Nat} {w : World} (h : GrowI B ds (.slice (some ⟨g, 0, none⟩) n cap) w) : Sort.Holds (Value.int .i64) w g 0 ds.toArray ∧ g < w.heap.size ∧ B ≤ g ∧ ds.length ≤ cap ∧ ds.length = n := by
  rcases h.2 with ⟨h0, _⟩ | ⟨g', cap', cur, e, hb, hg, hc, hm, hsz, hx⟩
  · cases h0
  · cases e
    exact ⟨holds_of_blockI hg (by simpa using hx), lt_of_block hg, hb, hc, rfl⟩

/-- Sorted in its own place. -/
theorem sort_own (B : Nat) (zs : List Int) (v : Value) (w : World) (h : GrowI B zs v w) (hB : B ≤ w.heap.size) (hl : zs.length ≤ 4194300) :
    Calls Try.prog 100 #[v] w fun e w' => e = .returned (.tuple #[]) ∧ GrowI B (zs.mergeSort fun x y => decide (x ≤ y)) v w' ∧ Lr B w w' v v := by
  have hlen : (zs.mergeSort fun x y => decide (x ≤ y)).length = zs.length := List.length_mergeSort zs
  have h0 := h
  rcases h0.2 with ⟨rfl, hz⟩ | ⟨g, cap, cur, rfl, hb, hg, hc, hm, hsz, hx⟩
  · have : zs = [] := List.length_eq_zero_iff.1 hz
    subst this
    refine (Any.slices_Sort_int_none srtLays189 none 0 w).mono ?_
    rintro e w' ⟨rfl, rfl⟩
    exact ⟨rfl, by simpa using h, Lr.of_below (Below.refl _ _) _⟩
  · obtain ⟨hH, hlt, _, _, _⟩ := h.holds
    refine (sortInts g 0 cap zs w hH hlt (by omega)).mono ?_
    rintro e w' ⟨rfl, n, os, rfl⟩
    have hgr := grownBy_sortedI (n := n) (os := os) (g := g) (w := w) (zs.mergeSort fun x y => decide (x ≤ y)).toArray
    refine ⟨rfl, ?_, ⟨⟨hgr.os, hgr.tape, hgr.output, hgr.size⟩, fun k hk _ hn => hgr.block k hk hn, .inl rfl⟩⟩
    unfold GrowI
    rw [hlen]
    exact ownsRow_sortedI hlen hb hg hc hm hsz

/-- One of each, in its own place. -/
theorem compact_own (B : Nat) (zs : List Int) (v : Value) (w : World) (h : GrowI B zs v w) (hB : B ≤ w.heap.size) (hl : zs.length ≤ 4194300) :
    Calls Try.prog 101 #[v] w fun e w' => ∃ v', e = .returned v' ∧ GrowI B (Lib.compact zs) v' w' ∧ Lr B w w' v v' := by
  have h0 := h
  rcases h0.2 with ⟨rfl, hz⟩ | ⟨g, cap, cur, rfl, hb, hg, hc, hm, hsz, hx⟩
  · have : zs = [] := List.length_eq_zero_iff.1 hz
    subst this
    refine (Any.slices_Compact_int_empty cpcLays20 none 0 w).mono ?_
    rintro e w' ⟨rfl, rfl⟩
    exact ⟨_, rfl, by simpa [Lib.compact, Lib.compactUpTo] using h, Lr.of_below (Below.refl _ _) _⟩
  · obtain ⟨hH, hlt, _, _, _⟩ := h.holds
    refine (compactInts g 0 cap zs w hH (by omega) hc).mono ?_
    rintro e w' ⟨rfl, q, rfl⟩
    have hle : (Lib.compact zs).length ≤ zs.length := by
      unfold Lib.compact Lib.compactUpTo
      rw [List.length_map]
      have := List.length_filter_le (Lib.keeps zs.toArray) (List.range zs.length)
      simpa using this
    generalize hD : (Lib.compact zs ++ List.replicate (zs.length - (Lib.compact zs).length) 0).toArray = D
    have hgr := grownBy_sortedI (n := q) (os := #[]) (g := g) (w := w) D
    have hhp := heap_sortedI (n := q) (os := #[]) D hg
    rw [Sort.grow_empty] at hgr hhp
    refine ⟨_, rfl, ⟨by simp, .inr ⟨g, cap, _, rfl, hb, hhp, by omega, hm, by simp [Sort.putCells, hsz], ?_⟩⟩, ⟨⟨hgr.os, hgr.tape, hgr.output, hgr.size⟩, fun k hk _ hn => hgr.block k hk hn, .inl rfl⟩⟩
    subst hD
    apply List.ext_getElem?
    intro j
    by_cases hj : j < (Lib.compact zs).length
    · rw [List.getElem?_take_of_lt (by omega), Array.getElem?_toList]
      have hj2 : j < cur.size := by omega
      simp [Sort.putCells, hj, hj2, List.getElem?_append_left]
      intro h1
      omega
    · rw [List.getElem?_take_eq_none (by omega), List.getElem?_eq_none (by simp; omega)]

set_option maxRecDepth 100000 in
set_option maxHeartbeats 2000000 in
theorem implCoercionLabels (t : Co) (v : Value) (fp : List Nat) (w : World) (hsz : t.cnt ≤ 1048576) (hat : t.At w v fp) :
    Calls Try.prog 46 #[v] w (MadeI w (lcLst t)) := by
  have hlt := hat.lt
  have HLT := hid hlt
  clear hlt
  have hat0 := hat
  obtain ⟨k, g, l, n3, a3, c3, rfl⟩ := hat.agg
  have hb0 : Below w.heap.size w (w.alloc (Obj.cells #[.int .i64 k, .int .i64 g, .int .i64 l, .slice a3 n3 c3] 52)) := (Below.refl _ _).alloc (Nat.le_refl _) _
  have HV := hid (implCoercionValid_any t _ _ _ (hat0.below hb0))
  have HT := hid (show lcLst t = if vldC t then ccN scStep [] t else [] from rfl)
  have HLN := hid (show (ccN lcStep [] t).length ≤ 2 * (t.cnt + 1) by have := ccN_len lcStep List.length lcStep_len t []; simpa using this)
  have HEQ := hid (fun h => lcLst_eq t h)
  generalize lcLst t = L at *
  generalize vldC t = r at *
  go_enter Try.func46, Try.ntmps46
  go_wp2_with fail
  refine HV.out.mono ?_
  rintro e w1 ⟨rfl, hb1⟩
  obtain ⟨z0, z1, z2, z3⟩ := box4 hb1
  have b1 := below_trans hb0 hb1
  have hat2 := hat.below b1
  have hal : Below w1.heap.size w1 (w1.alloc (Obj.cells #[.slice none 0 0] 67)) := (Below.refl _ _).alloc (Nat.le_refl _) _
  cases r
  · have HFIN := hid (show MadeI w L (.returned (.slice none 0 0)) w1 from ⟨_, rfl, by rw [HT.out]; exact GrowI.zero _ _, b1⟩)
    go_wp2_with fail
    go_ret
    exact HFIN.out
  · replace z0 := cell_keep z0 hal
    replace z1 := cell_keep z1 hal
    replace z2 := cell_keep z2 hal
    replace z3 := cell_keep z3 hal
    have hs1 : (w1.alloc (Obj.cells #[.slice none 0 0] 67)).heap.size = w1.heap.size + 1 := by simp
    have HL := hid (show LabAt w1.heap.size (w1.heap.size + 1) [] (.slice none 0 0) (w1.alloc (Obj.cells #[.slice none 0 0] 67)) from ⟨alloc_new _ _, GrowI.zero _ _, Nat.lt_succ_self _⟩)
    have HAT := hid (hat2.below hal)
    have HLT1 := hid (show ∀ x ∈ fp, x < w1.heap.size from fun x hx => Nat.lt_of_lt_of_le (HLT.out x hx) b1.size)
    have hsz2 : ([] : List Int).length + 2 * (t.cnt + 1) ≤ 4194300 := by simp only [List.length_nil]; omega
    have HS2 := hid hsz2
    have HB1 := hid b1
    have HAL := hid hal
    clear hat2 hsz2 b1
    go_wp2_with fail
    refine (eachCo_any 99 #[.pointer (some ⟨w1.heap.size, 0, none⟩)] w1.heap.size (w1.heap.size + 1) (LabAt w1.heap.size (w1.heap.size + 1)) List.length lcStep callOk_lc (Nat.lt_succ_self _) lcStep_len
      (fun a v w w' h hb => h.below hb) (fun a v w h => h.2.1.own_ge) (visitLc w1.heap.size (w1.heap.size + 1))
      t [] (.slice none 0 0) _ fp _ HL.out HAT.out HLT1.out (Nat.le_of_eq hs1.symm) hsz HS2.out).mono ?_
    rintro e w3 ⟨⟨r3, rfl⟩, v3, ⟨hO3, hG3, hMB⟩, hr3⟩
    obtain ⟨a3', c3', rfl⟩ := hG3.shape
    have hc3 : w3.cell? ⟨w1.heap.size, 0, none⟩ = some (.slice a3' (ccN lcStep [] t).length c3') := by rw [cell_of_block hO3]; rfl
    have HB3 := hid (hr3.below hMB (Nat.le_of_eq hs1.symm) (fun b hb => by cases hb))
    have HS3 := hid hr3.1.2.2.2
    have HG3 := hid hG3
    have HO3 := hid hO3
    clear hG3 hO3 hr3 z0 z1 z2 z3
    go_wp2_with fail
    refine (sort_own (w1.heap.size + 1) _ _ _ HG3.out (by have := HS3.out; omega) (by have := HLN.out; omega)).mono ?_
    rintro e w4 ⟨rfl, hG4, hr4⟩
    have hO4 := hr4.heap HO3.out (by omega) (fun e => by have := (HG3.out.own_ge _ e.symm).1; omega)
    have hc4 : w4.cell? ⟨w1.heap.size, 0, none⟩ = some (.slice a3' (ccN lcStep [] t).length c3') := by rw [cell_of_block hO4]; rfl
    have HB4 := hid (show Below (w1.heap.size + 1) w3 w4 from ⟨hr4.1.1, hr4.1.2.1, hr4.1.2.2.1, hr4.1.2.2.2, fun k hk => by
      by_cases e : k = w1.heap.size + 1
      · omega
      · exact hr4.2.1 k (by have := HS3.out; omega) e (fun e => by have := (HG3.out.own_ge _ e.symm).1; omega)⟩)
    have HG4 := hid hG4
    clear hG4 hO4 hr4 hc3
    go_wp2_with fail
    refine (compact_own (w1.heap.size + 1) _ _ _ HG4.out (by have := HS3.out; have := HB4.out.size; omega) (by have := HLN.out; rw [List.length_mergeSort]; omega)).mono ?_
    rintro e w5 ⟨v5, rfl, hG5, hr5⟩
    have HB5 := hid (show Below (w1.heap.size + 1) w4 w5 from ⟨hr5.1.1, hr5.1.2.1, hr5.1.2.2.1, hr5.1.2.2.2, fun k hk => by
      exact hr5.2.1 k (by have := HS3.out; have := HB4.out.size; omega) (by omega) (fun e => by have := (HG4.out.own_ge _ e.symm).1; omega)⟩)
    have HFIN := hid (show MadeI w L (.returned v5) w5 from ⟨v5, rfl, by rw [HT.out, if_pos trivial, ← HEQ.out trivial]; exact hG5.mono (by have := HB1.out.size; omega), HB1.out.trans ((HAL.out.trans (HB3.out.trans ((HB4.out.mono (Nat.le_succ _)).trans (HB5.out.mono (Nat.le_succ _))))).mono HB1.out.size)⟩)
    clear hG5 hr5
    go_wp2_with fail
    go_ret
    exact HFIN.out
end Go.Proofs.Ytephhhnoobkbhaa

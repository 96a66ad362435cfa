/- Numbers of the call's own, sorted and compacted: the program's sortedLabels. -/
import Derived.Test.YtgiimijooabioaaDoorLbI
import Derived.Test.YtgiimijooabioaaDoorSrt
import Derived.Sort.OwnSortedInts
namespace Go.Proofs.YtgiimijooabioaaDoor
open Go.RowKit

theorem GrowI.holds {B : Nat} {ds : List Int} {g n cap : Nat} {w : World} (h : GrowI B ds (.slice (some ⟨g, 0, none⟩) n cap) w) : Sort.Holds (Value.int .i64) w g 0 ds.toArray ∧ g < w.heap.size ∧ B ≤ g ∧ ds.length ≤ cap ∧ ds.length = n := by
  rcases h.2 with ⟨h0, _⟩ | ⟨g', cap', cur, e, hb, hg, hc, hm, hsz, hx⟩
  · cases h0
  · cases e
    exact ⟨holds_of_blockI hg (by simpa using hx), lt_of_block hg, hb, hc, rfl⟩

/-- Sorted in its own place. -/
theorem sort_own (B : Nat) (zs : List Int) (v : Value) (w : World) (h : GrowI B zs v w) (hB : B ≤ w.heap.size) (hl : zs.length ≤ 4194300) :
    Calls Tryd.prog 97 #[v] w fun e w' => e = .returned (.tuple #[]) ∧ GrowI B (zs.mergeSort fun x y => decide (x ≤ y)) v w' ∧ Lr B w w' v v := by
  have hlen : (zs.mergeSort fun x y => decide (x ≤ y)).length = zs.length := List.length_mergeSort zs
  have h0 := h
  rcases h0.2 with ⟨rfl, hz⟩ | ⟨g, cap, cur, rfl, hb, hg, hc, hm, hsz, hx⟩
  · have : zs = [] := List.length_eq_zero_iff.1 hz
    subst this
    refine (Any.slices_Sort_int_none srtLays189 none 0 w).mono ?_
    rintro e w' ⟨rfl, rfl⟩
    exact ⟨rfl, by simpa using h, Lr.of_below (Below.refl _ _) _⟩
  · obtain ⟨hH, hlt, _, _, _⟩ := h.holds
    refine (sortInts g 0 cap zs w hH hlt (by omega)).mono ?_
    rintro e w' ⟨rfl, n, os, rfl⟩
    have hgr := grownBy_sortedI (n := n) (os := os) (g := g) (w := w) (zs.mergeSort fun x y => decide (x ≤ y)).toArray
    refine ⟨rfl, ?_, ⟨⟨hgr.os, hgr.tape, hgr.output, hgr.size⟩, fun k hk _ hn => hgr.block k hk hn, .inl rfl⟩⟩
    unfold GrowI
    rw [hlen]
    exact ownsRow_sortedI hlen hb hg hc hm hsz

/-- One of each, in its own place. -/
theorem compact_own (B : Nat) (zs : List Int) (v : Value) (w : World) (h : GrowI B zs v w) (hB : B ≤ w.heap.size) (hl : zs.length ≤ 4194300) :
    Calls Tryd.prog 98 #[v] w fun e w' => ∃ v', e = .returned v' ∧ GrowI B (Lib.compact zs) v' w' ∧ Lr B w w' v v' := by
  have h0 := h
  rcases h0.2 with ⟨rfl, hz⟩ | ⟨g, cap, cur, rfl, hb, hg, hc, hm, hsz, hx⟩
  · have : zs = [] := List.length_eq_zero_iff.1 hz
    subst this
    refine (Any.slices_Compact_int_empty cpcLays20 none 0 w).mono ?_
    rintro e w' ⟨rfl, rfl⟩
    exact ⟨_, rfl, by simpa [Lib.compact, Lib.compactUpTo] using h, Lr.of_below (Below.refl _ _) _⟩
  · obtain ⟨hH, hlt, _, _, _⟩ := h.holds
    refine (compactInts g 0 cap zs w hH (by omega) hc).mono ?_
    rintro e w' ⟨rfl, q, rfl⟩
    have hle : (Lib.compact zs).length ≤ zs.length := by
      unfold Lib.compact Lib.compactUpTo
      rw [List.length_map]
      have := List.length_filter_le (Lib.keeps zs.toArray) (List.range zs.length)
      simpa using this
    generalize hD : (Lib.compact zs ++ List.replicate (zs.length - (Lib.compact zs).length) 0).toArray = D
    have hgr := grownBy_sortedI (n := q) (os := #[]) (g := g) (w := w) D
    have hhp := heap_sortedI (n := q) (os := #[]) D hg
    rw [Sort.grow_empty] at hgr hhp
    refine ⟨_, rfl, ⟨by simp, .inr ⟨g, cap, _, rfl, hb, hhp, by omega, hm, by simp [Sort.putCells, hsz], ?_⟩⟩, ⟨⟨hgr.os, hgr.tape, hgr.output, hgr.size⟩, fun k hk _ hn => hgr.block k hk hn, .inl rfl⟩⟩
    subst hD
    apply List.ext_getElem?
    intro j
    by_cases hj : j < (Lib.compact zs).length
    · rw [List.getElem?_take_of_lt (by omega), Array.getElem?_toList]
      have hj2 : j < cur.size := by omega
      simp [Sort.putCells, hj, hj2, List.getElem?_append_left]
      intro h1
      omega
    · rw [List.getElem?_take_eq_none (by omega), List.getElem?_eq_none (by simp; omega)]

theorem sortedLabels_any (B : Nat) (zs : List Int) (v : Value) (w : World) (h : GrowI B zs v w) (hB : B ≤ w.heap.size) (hl : zs.length ≤ 4194300) :
    Calls Tryd.prog 60 #[v] w fun e w' => ∃ v', e = .returned v' ∧ GrowI B (Lib.compact (zs.mergeSort fun x y => decide (x ≤ y))) v' w' ∧ Lr B w w' v v' := by
  have HS := hid (sort_own B zs v w h hB hl)
  obtain ⟨av, capv, rfl⟩ := h.shape
  clear h
  go_enter Tryd.func60, Tryd.ntmps60
  go_wp2_with fail
  refine HS.out.mono ?_
  rintro e w1 ⟨rfl, hG1, hr1⟩
  have HC := hid (compact_own B _ _ w1 hG1 (Nat.le_trans hB hr1.1.2.2.2) (by rw [List.length_mergeSort]; omega))
  have HR1 := hid hr1
  clear hG1 hr1
  go_wp2_with fail
  refine HC.out.mono ?_
  rintro e w2 ⟨v2, rfl, hG2, hr2⟩
  have HF := hid (And.intro hG2 (HR1.out.trans hr2))
  clear hG2 hr2
  go_wp2_with fail
  go_ret
  exact ⟨v2, rfl, HF.out.1, HF.out.2⟩
end Go.Proofs.YtgiimijooabioaaDoor

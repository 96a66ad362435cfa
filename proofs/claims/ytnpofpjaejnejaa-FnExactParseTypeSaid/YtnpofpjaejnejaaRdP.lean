/- ParseType, of the program. -/
import Derived.Test.YtnpofpjaejnejaaRdT
namespace Go.Proofs.Ytnpofpjaejnejaa
open Go.RowKit

/-- A tree in new memory and a bool. -/
def MadeV (w : World) (t : Ty) (ok : Bool) (e : Ending) (w' : World) : Prop := ∃ k n a c fp, e = .returned (.tuple #[.agg #[.int .i64 k, .slice a n c], .bool ok]) ∧ t.At w' (.agg #[.int .i64 k, .slice a n c]) fp ∧ Fresh w.heap.size w' fp ∧ Below w.heap.size w w'

def prsOk (s : ByteArray) : Bool := match prs s 4 0 with | none => false | some (_, j) => decide (j = s.size)
def prsT (s : ByteArray) : Ty := match prs s 4 0 with | none => .mk 0 [] | some (t, j) => if j = s.size then t else .mk 0 []

theorem madeV_zero {w w' : World} (h : Below w.heap.size w w') : MadeV w (.mk 0 []) false (.returned (.tuple #[.agg #[.int .i64 0, .slice none 0 0], .bool false])) w' :=
  ⟨0, 0, none, 0, [], rfl, Ty.at_mk.2 ⟨_, rfl, .inl ⟨rfl, rfl, none, 0, rfl⟩⟩, Fresh.nil _ _, h⟩

theorem prs_none {s : ByteArray} (h : prs s 4 0 = none) : prsT s = .mk 0 [] ∧ prsOk s = false := by simp [prsT, prsOk, h]
theorem prs_short {s : ByteArray} {t : Ty} {j : Nat} (h : prs s 4 0 = some (t, j)) (hj : j ≠ s.size) : prsT s = .mk 0 [] ∧ prsOk s = false := by simp [prsT, prsOk, h, hj]
theorem prs_whole {s : ByteArray} {t : Ty} {j : Nat} (h : prs s 4 0 = some (t, j)) (hj : j = s.size) : prsT s = t ∧ prsOk s = true := by simp [prsT, prsOk, h, hj]

theorem prsT_cnt (s : ByteArray) : (prsT s).cnt ≤ 1048576 := by
  unfold prsT
  split
  · simp [Ty.cnt, cntL]
  · rename_i t j h
    split
    · have := shp_cnt (prs_shp h)
      omega
    · simp [Ty.cnt, cntL]

/-- The result's block, the cursor's above it. -/
theorem two_boxes (s : ByteArray) (w : World) : CurAt (w.heap.size + 1) s 0 ((w.alloc (Obj.cells #[.int .i64 0, .slice none 0 0] 29)).alloc (Obj.cells #[.string s, .int .i64 0] 63)) ↔ s.size ≤ 1048576 := by
  have h : ((w.alloc (Obj.cells #[.int .i64 0, .slice none 0 0] 29)).alloc (Obj.cells #[.string s, .int .i64 0] 63)).heap[w.heap.size + 1]? = some (Obj.cells #[.string s, .int .i64 0] 63) := by
    have hs : (w.alloc (Obj.cells #[.int .i64 0, .slice none 0 0] 29)).heap.size = w.heap.size + 1 := by simp
    rw [← hs]
    exact alloc_new _ _
  exact ⟨fun h => h.2.2, fun hs => ⟨h, Nat.zero_le _, hs⟩⟩

theorem two_res {s : ByteArray} {w wr : World} (h : Cx (w.heap.size + 1) ((w.alloc (Obj.cells #[.int .i64 0, .slice none 0 0] 29)).alloc (Obj.cells #[.string s, .int .i64 0] 63)) wr) : wr.heap[w.heap.size]? = some (Obj.cells #[.int .i64 0, .slice none 0 0] 29) ∧ Below w.heap.size w wr :=
  ⟨h.blk ((Below.heap_alloc _ _ _ (by simp)).trans (alloc_new w _)) (by omega), (((Below.refl _ _).alloc (Nat.le_refl _) _).alloc (by simp) _).trans (h.below (by simp; omega) (by omega))⟩

set_option maxHeartbeats 1000000 in
set_option maxRecDepth 100000 in
theorem implParseType (s : ByteArray) (w : World) (hs : s.size ≤ 1048576) : Calls Try.prog 15 #[.string s] w (MadeV w (prsT s) (prsOk s)) := by
  have H := hid ((two_boxes s w).2 hs)
  go_enter Try.func15, Try.ntmps15
  go_wp2_with fail
  refine (readType_any 4 4 (w.heap.size + 1) s 0 _ (by omega) rfl H.out).mono ?_
  rintro e w1 (⟨hr, rfl, ⟨j, hc1⟩, hx1⟩ | ⟨t, j, k, m, a, c, fp, hr, rfl, hat, hf, hc1, hx1⟩)
  · obtain ⟨hM, hbl⟩ := two_res hx1
    obtain ⟨p1, p2, p3⟩ := fin_b (y := w1) (R := w.heap.size) hM (.int .i64 0) (.slice none 0 0) (Obj.cells #[.int .i64 0, .slice none 0 0] 29)
    have q0 := cell_of_block (o := 0) p2
    have q1 := cell_of_block (o := 1) p2
    have z0 := cell_of_block (o := 0) hM
    have z1 := cell_of_block (o := 1) hM
    have zf := fun o => frozen_of_block (o := o) hM
    have zl := lt_of_block hM
    simp at q0 q1 z0 z1
    have HF := hid (madeV_zero (((hbl.setCell (p := ⟨w.heap.size, 0, none⟩) (Nat.le_refl _) (.int .i64 0)).setCell (p := ⟨w.heap.size, 1, none⟩) (Nat.le_refl _) (.slice none 0 0)).alloc (by simp; omega) (Obj.cells #[.int .i64 0, .slice none 0 0] 29)))
    have HR := hid (prs_none hr)
    clear hr hc1 hx1 hbl p1 p2 p3 hM
    go_wp2_with fail
    refine bodyPost_ret (v := .tuple #[.agg #[.int .i64 0, .slice none 0 0], .bool false]) (by simp [results, Try.results15, go_sem, q0, q1]) rfl ?_
    rw [HR.out.1, HR.out.2]
    exact HF.out
  · have hal : Below w1.heap.size w1 (w1.alloc (Obj.cells #[.int .i64 k, .slice a m c] 29)) := (Below.refl _ _).alloc (Nat.le_refl _) _
    obtain ⟨hM, hbl⟩ := two_res hx1
    have HA := hid hal
    have HM := hid hM
    have HBL := hid hbl
    have HC := hid (hc1.below hal)
    have HAT := hid (hat.below hal)
    have HFR := hid (hf.below hal)
    have hsz : w.heap.size + 1 < w1.heap.size := hc1.lt
    clear hc1 hx1 hbl hM hal hat hf
    by_cases hj : j = s.size
    · have hq : ((j : Int) == (s.size : Int)) = true := by simp [hj]
      have HQ := hid hq
      have HR := hid (prs_whole hr hj)
      clear hq hj hr
      go_wp2_with fail
      refine (atEnd_any _ s j _ HC.out).mono ?_
      rintro e w2 ⟨he, hb2⟩
      rw [HQ.out] at he
      subst he
      obtain ⟨y0, y1⟩ := box_cells hb2
      have hbb := HA.out.trans (hb2.mono HA.out.size)
      have hM2 := (hbb.block _ (lt_of_block HM.out)).trans HM.out
      have z0 := cell_of_block (o := 0) hM2
      have z1 := cell_of_block (o := 1) hM2
      have zf := fun o => frozen_of_block (o := o) hM2
      have zl := lt_of_block hM2
      simp at z0 z1
      have hne : ∀ x ∈ fp, x ≠ w.heap.size := fun x hx e => by have h1 := (HFR.out.2 x hx).1; simp at h1; omega
      have HT := hid (((HAT.out.below hb2).setCell (a := ⟨w.heap.size, 0, none⟩) hne (.int .i64 k)).setCell (a := ⟨w.heap.size, 1, none⟩) hne (.slice a m c))
      have HF := hid (((HFR.out.below hb2).setCell (a := ⟨w.heap.size, 0, none⟩) hne (.int .i64 k)).setCell (a := ⟨w.heap.size, 1, none⟩) hne (.slice a m c))
      have HB := hid (((HBL.out.trans (hbb.mono HBL.out.size)).setCell (p := ⟨w.heap.size, 0, none⟩) (Nat.le_refl _) (.int .i64 k)).setCell (p := ⟨w.heap.size, 1, none⟩) (Nat.le_refl _) (.slice a m c))
      clear hb2 hbb hM2 hne
      go_wp2_with fail
      refine bodyPost_ret (v := .tuple #[.agg #[.int .i64 k, .slice a m c], .bool true]) (by simp [results, Try.results15, go_sem, z0, z1]) rfl ?_
      rw [HR.out.1, HR.out.2]
      exact ⟨k, m, a, c, fp, rfl, HT.out, HF.out.mono (by simp; omega), HB.out⟩
    · have hq : ((j : Int) == (s.size : Int)) = false := by simp; omega
      have HQ := hid hq
      have HR := hid (prs_short hr hj)
      clear hq hj hr
      go_wp2_with fail
      refine (atEnd_any _ s j _ HC.out).mono ?_
      rintro e w2 ⟨he, hb2⟩
      rw [HQ.out] at he
      subst he
      have hbb := HA.out.trans (hb2.mono HA.out.size)
      have hM2 := (hbb.block _ (lt_of_block HM.out)).trans HM.out
      have z0 := cell_of_block (o := 0) hM2
      have z1 := cell_of_block (o := 1) hM2
      have zf := fun o => frozen_of_block (o := o) hM2
      have zl := lt_of_block hM2
      simp at z0 z1
      have HF := hid (madeV_zero ((((HBL.out.trans (hbb.mono HBL.out.size)).setCell (p := ⟨w.heap.size, 0, none⟩) (Nat.le_refl _) (.int .i64 0)).setCell (p := ⟨w.heap.size, 1, none⟩) (Nat.le_refl _) (.slice none 0 0))))
      clear hb2 hbb hM2
      go_wp2_with fail
      refine bodyPost_ret (v := .tuple #[.agg #[.int .i64 0, .slice none 0 0], .bool false]) (by simp [results, Try.results15, go_sem, z0, z1]) rfl ?_
      rw [HR.out.1, HR.out.2]
      exact HF.out
end Go.Proofs.Ytnpofpjaejnejaa

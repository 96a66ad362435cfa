/- ParseCoercion, of the program. -/
import Derived.Test.YtgekfnodmgkdaaaPc6
import Derived.Test.YtgekfnodmgkdaaaCw6
import Derived.Test.YtgekfnodmgkdaaaPc1
namespace Go.Proofs.Ytgekfnodmgkdaaa
open Go.RowKit

/-- A coercion in new memory and a bool. -/
def MadeKV (w : World) (t : Co) (ok : Bool) (e : Ending) (w' : World) : Prop := ∃ (k g l : Int) (a : Option Addr) (n c : Nat) (fp : List Nat), e = .returned (.tuple #[.agg #[.int .i64 k, .int .i64 g, .int .i64 l, .slice a n c], .bool ok]) ∧ t.At w' (.agg #[.int .i64 k, .int .i64 g, .int .i64 l, .slice a n c]) fp ∧ Fresh w.heap.size w' fp ∧ Below w.heap.size w w'

def pcOk (s : ByteArray) : Bool := match prc s 9 0 with | none => false | some (c, j) => decide (j = s.size) && vldK c
def pcT (s : ByteArray) : Co := match prc s 9 0 with | none => .mk 0 0 0 [] | some (c, j) => if j = s.size ∧ vldK c = true then c else .mk 0 0 0 []

theorem madeKV_zero {w w' : World} (h : Below w.heap.size w w') : MadeKV w (.mk 0 0 0 []) false (.returned (.tuple #[.agg #[.int .i64 0, .int .i64 0, .int .i64 0, .slice none 0 0], .bool false])) w' :=
  ⟨0, 0, 0, none, 0, 0, [], rfl, Co.at_mk.2 ⟨.slice none 0 0, rfl, CSl.nilA⟩, Fresh.nil _ _, h⟩

theorem pc_none {s : ByteArray} (h : prc s 9 0 = none) : pcT s = .mk 0 0 0 [] ∧ pcOk s = false := by simp [pcT, pcOk, h]
theorem pc_short {s : ByteArray} {t : Co} {j : Nat} (h : prc s 9 0 = some (t, j)) (hj : j ≠ s.size) : pcT s = .mk 0 0 0 [] ∧ pcOk s = false := by simp [pcT, pcOk, h, hj]
theorem pc_bad {s : ByteArray} {t : Co} {j : Nat} (h : prc s 9 0 = some (t, j)) (hv : vldK t = false) : pcT s = .mk 0 0 0 [] ∧ pcOk s = false := by simp [pcT, pcOk, h, hv]
theorem pc_whole {s : ByteArray} {t : Co} {j : Nat} (h : prc s 9 0 = some (t, j)) (hj : j = s.size) (hv : vldK t = true) : pcT s = t ∧ pcOk s = true := by simp [pcT, pcOk, h, hj, hv]

/-- What is read as a whole is the text of a valid coercion, and nothing else is. -/
theorem pc_iff (s : ByteArray) (c : Co) : (pcOk s = true ∧ pcT s = c) ↔ (vldK c = true ∧ TxtAt s 0 (cx 9 c) ∧ (cx 9 c).length = s.size) := by
  constructor
  · rintro ⟨h1, h2⟩
    unfold pcOk at h1
    split at h1
    · cases h1
    · rename_i t j h
      simp only [Bool.and_eq_true, decide_eq_true_eq] at h1
      have ht := (pc_whole h h1.1 h1.2).1
      rw [ht] at h2
      subst h2
      obtain ⟨_, a, b⟩ := cx_prc 9 t 0 j 9 h h1.2
      exact ⟨h1.2, a, by omega⟩
  · rintro ⟨h1, h2, h3⟩
    have h := prc_cx 9 c 0 h1 h2
    have := pc_whole h (by omega) h1
    exact ⟨this.2, this.1⟩

theorem two_boxesK (s : ByteArray) (w : World) (hs : s.size ≤ 1048576) : CurAt (w.heap.size + 1) s 0 ((w.alloc (Obj.cells #[.int .i64 0, .int .i64 0, .int .i64 0, .slice none 0 0] 44)).alloc (Obj.cells #[.string s, .int .i64 0] 82)) := by
  have h : ((w.alloc (Obj.cells #[.int .i64 0, .int .i64 0, .int .i64 0, .slice none 0 0] 44)).alloc (Obj.cells #[.string s, .int .i64 0] 82)).heap[w.heap.size + 1]? = some (Obj.cells #[.string s, .int .i64 0] 82) := by
    have := alloc_new (w.alloc (Obj.cells #[.int .i64 0, .int .i64 0, .int .i64 0, .slice none 0 0] 44)) (Obj.cells #[.string s, .int .i64 0] 82)
    simpa using this
  exact ⟨h, Nat.zero_le _, hs⟩

theorem two_resK {s : ByteArray} {w wr : World} (h : Cx (w.heap.size + 1) ((w.alloc (Obj.cells #[.int .i64 0, .int .i64 0, .int .i64 0, .slice none 0 0] 44)).alloc (Obj.cells #[.string s, .int .i64 0] 82)) wr) : wr.heap[w.heap.size]? = some (Obj.cells #[.int .i64 0, .int .i64 0, .int .i64 0, .slice none 0 0] 44) ∧ Below w.heap.size w wr :=
  ⟨h.blk ((Below.heap_alloc _ _ _ (by simp)).trans (alloc_new w _)) (by omega), (((Below.refl _ _).alloc (Nat.le_refl _) _).alloc (by simp) _).trans (h.below (by simp; omega) (by omega))⟩

theorem rp_put {w wr : World} (hM : wr.heap[w.heap.size]? = some (Obj.cells #[.int .i64 0, .int .i64 0, .int .i64 0, .slice none 0 0] 44)) (hb : Below w.heap.size w wr) (x0 x1 x2 x3 : Value) :
    Below w.heap.size w ((((wr.setCell ⟨w.heap.size, 0, none⟩ x0).setCell ⟨w.heap.size, 1, none⟩ x1).setCell ⟨w.heap.size, 2, none⟩ x2).setCell ⟨w.heap.size, 3, none⟩ x3) ∧ ((((wr.setCell ⟨w.heap.size, 0, none⟩ x0).setCell ⟨w.heap.size, 1, none⟩ x1).setCell ⟨w.heap.size, 2, none⟩ x2).setCell ⟨w.heap.size, 3, none⟩ x3).heap[w.heap.size]? = some (Obj.cells #[x0, x1, x2, x3] 44) :=
  ⟨(((hb.setCell (p := ⟨w.heap.size, 0, none⟩) (Nat.le_refl _) x0).setCell (p := ⟨w.heap.size, 1, none⟩) (Nat.le_refl _) x1).setCell (p := ⟨w.heap.size, 2, none⟩) (Nat.le_refl _) x2).setCell (p := ⟨w.heap.size, 3, none⟩) (Nat.le_refl _) x3,
   heap_setCell_at (heap_setCell_at (heap_setCell_at (heap_setCell_at hM x0) x1) x2) x3⟩

set_option linter.unusedVariables false in
set_option linter.unusedSimpArgs false in
set_option maxHeartbeats 1000000 in
theorem implParseCoercion (s : ByteArray) (w : World) (hs : s.size ≤ 1048576) : Calls Try.prog 19 #[.string s] w (MadeKV w (pcT s) (pcOk s)) := by
  have H := hid (two_boxesK s w hs)
  go_enter Try.func19, Try.ntmps19
  go_wp2_with fail
  refine (readCoercion_any 9 9 (w.heap.size + 1) s 0 _ (by omega) rfl H.out).mono ?_
  rintro e w1 (⟨hr, k, g, l, a, m, cap, rfl, ⟨j, hc1⟩, hx1⟩ | ⟨t, j, k, g, l, a, m, cap, fp, hr, rfl, hat, hf, hc1, hx1⟩)
  · have hal : Below w1.heap.size w1 (w1.alloc (Obj.cells #[.int .i64 k, .int .i64 g, .int .i64 l, .slice a m cap] 44)) := (Below.refl _ _).alloc (Nat.le_refl _) _
    obtain ⟨hM, hbl⟩ := two_resK hx1
    have hM2 := (hal.block _ (lt_of_block hM)).trans hM
    have hB2 := hbl.trans (hal.mono hbl.size)
    have HR := hid (pc_none hr)
    have r0 := cell_of_block (o := 0) hM2
    have r1 := cell_of_block (o := 1) hM2
    have r2 := cell_of_block (o := 2) hM2
    have r3 := cell_of_block (o := 3) hM2
    simp at r0 r1 r2 r3
    have rz := fun o => frozen_of_block (o := o) hM2
    have rl := lt_of_block hM2
    obtain ⟨g2, g3⟩ := rp_put hM2 hB2 (.int .i64 0) (.int .i64 0) (.int .i64 0) (.slice none 0 0)
    have q5 := cell_of_block (o := 0) g3
    have q6 := cell_of_block (o := 1) g3
    have q7 := cell_of_block (o := 2) g3
    have q8 := cell_of_block (o := 3) g3
    simp at q5 q6 q7 q8
    have HG := hid (madeKV_zero g2)
    clear g2 g3
    clear hr hc1 hx1 hM hbl hal hM2 hB2
    go_wp2_with fail
    refine bodyPost_ret (v := .tuple #[.agg #[.int .i64 0, .int .i64 0, .int .i64 0, .slice none 0 0], .bool false]) (by simp [results, Try.results19, go_sem, q5, q6, q7, q8]) rfl ?_
    rw [HR.out.1, HR.out.2]
    exact HG.out
  have hal : Below w1.heap.size w1 (w1.alloc (Obj.cells #[.int .i64 k, .int .i64 g, .int .i64 l, .slice a m cap] 44)) := (Below.refl _ _).alloc (Nat.le_refl _) _
  obtain ⟨hM, hbl⟩ := two_resK hx1
  have HA := hid hal
  have HM := hid hM
  have HBL := hid hbl
  have HC := hid (hc1.below hal)
  have HAT := hid (hat.below hal)
  have HFR := hid (hf.below hal)
  have hsz : w.heap.size + 1 < w1.heap.size := hc1.lt
  have HBX := hid (alloc_new w1 (Obj.cells #[.int .i64 k, .int .i64 g, .int .i64 l, .slice a m cap] 44))
  clear hc1 hx1 hbl hM hal hat hf
  by_cases hj : j = s.size
  case neg =>
    have hq : ((j : Int) == (s.size : Int)) = false := by simp; omega
    have HQ := hid hq
    have HR := hid (pc_short hr hj)
    clear hq hj hr
    go_wp2_with fail
    refine (atEnd_any _ s j _ HC.out).mono ?_
    rintro e w2 ⟨he, hb2⟩
    rw [HQ.out] at he
    subst he
    have hbb := HA.out.trans (hb2.mono HA.out.size)
    have hM2 := (hbb.block _ (lt_of_block HM.out)).trans HM.out
    have hB2 := HBL.out.trans (hbb.mono HBL.out.size)
    have r0 := cell_of_block (o := 0) hM2
    have r1 := cell_of_block (o := 1) hM2
    have r2 := cell_of_block (o := 2) hM2
    have r3 := cell_of_block (o := 3) hM2
    simp at r0 r1 r2 r3
    have rz := fun o => frozen_of_block (o := o) hM2
    have rl := lt_of_block hM2
    obtain ⟨g2, g3⟩ := rp_put hM2 hB2 (.int .i64 0) (.int .i64 0) (.int .i64 0) (.slice none 0 0)
    have q5 := cell_of_block (o := 0) g3
    have q6 := cell_of_block (o := 1) g3
    have q7 := cell_of_block (o := 2) g3
    have q8 := cell_of_block (o := 3) g3
    simp at q5 q6 q7 q8
    have HG := hid (madeKV_zero g2)
    clear g2 g3
    clear hb2 hbb hM2 hB2
    go_wp2_with fail
    refine bodyPost_ret (v := .tuple #[.agg #[.int .i64 0, .int .i64 0, .int .i64 0, .slice none 0 0], .bool false]) (by simp [results, Try.results19, go_sem, q5, q6, q7, q8]) rfl ?_
    rw [HR.out.1, HR.out.2]
    exact HG.out
  have hq : ((j : Int) == (s.size : Int)) = true := by simp [hj]
  have HQ := hid hq
  have HJ := hid hj
  have HRR := hid hr
  clear hq hj hr
  go_wp2_with fail
  refine (atEnd_any _ s j _ HC.out).mono ?_
  rintro e w2 ⟨he, hb2⟩
  rw [HQ.out] at he
  subst he
  have hE2 := (hb2.block _ (lt_of_block HBX.out)).trans HBX.out
  have y0 := cell_of_block (o := 0) hE2
  have y1 := cell_of_block (o := 1) hE2
  have y2 := cell_of_block (o := 2) hE2
  have y3 := cell_of_block (o := 3) hE2
  simp at y0 y1 y2 y3
  have HB2 := hid hb2
  have HE2 := hid hE2
  have HV := hid (implCoercionValid_any t _ _ _ (HAT.out.below hb2))
  clear hb2 hE2
  go_wp2_with fail
  refine HV.out.mono ?_
  clear y0 y1 y2 y3
  rintro e w3 ⟨he, hb3⟩
  have hE3 := (hb3.block _ (lt_of_block HE2.out)).trans HE2.out
  have hb23 := below_trans HB2.out hb3
  have hbb := HA.out.trans (hb23.mono HA.out.size)
  have hM3 := (hbb.block _ (lt_of_block HM.out)).trans HM.out
  have hB3 := HBL.out.trans (hbb.mono HBL.out.size)
  cases hv : vldK t with
  | false =>
    rw [hv] at he
    subst he
    have HR := hid (pc_bad HRR.out hv)
    have r0 := cell_of_block (o := 0) hM3
    have r1 := cell_of_block (o := 1) hM3
    have r2 := cell_of_block (o := 2) hM3
    have r3 := cell_of_block (o := 3) hM3
    simp at r0 r1 r2 r3
    have rz := fun o => frozen_of_block (o := o) hM3
    have rl := lt_of_block hM3
    obtain ⟨g2, g3⟩ := rp_put hM3 hB3 (.int .i64 0) (.int .i64 0) (.int .i64 0) (.slice none 0 0)
    have q5 := cell_of_block (o := 0) g3
    have q6 := cell_of_block (o := 1) g3
    have q7 := cell_of_block (o := 2) g3
    have q8 := cell_of_block (o := 3) g3
    simp at q5 q6 q7 q8
    have HG := hid (madeKV_zero g2)
    clear g2 g3
    clear hb3 hE3 hb23 hbb hM3 hB3 hv
    go_wp2_with fail
    refine bodyPost_ret (v := .tuple #[.agg #[.int .i64 0, .int .i64 0, .int .i64 0, .slice none 0 0], .bool false]) (by simp [results, Try.results19, go_sem, q5, q6, q7, q8]) rfl ?_
    rw [HR.out.1, HR.out.2]
    exact HG.out
  | true =>
    rw [hv] at he
    subst he
    have HR := hid (pc_whole HRR.out HJ.out hv)
    have y0 := cell_of_block (o := 0) hE3
    have y1 := cell_of_block (o := 1) hE3
    have y2 := cell_of_block (o := 2) hE3
    have y3 := cell_of_block (o := 3) hE3
    simp at y0 y1 y2 y3
    have r0 := cell_of_block (o := 0) hM3
    have r1 := cell_of_block (o := 1) hM3
    have r2 := cell_of_block (o := 2) hM3
    have r3 := cell_of_block (o := 3) hM3
    simp at r0 r1 r2 r3
    have rz := fun o => frozen_of_block (o := o) hM3
    have rl := lt_of_block hM3
    obtain ⟨g2, g3⟩ := rp_put hM3 hB3 (.int .i64 k) (.int .i64 g) (.int .i64 l) (.slice a m cap)
    have q5 := cell_of_block (o := 0) g3
    have q6 := cell_of_block (o := 1) g3
    have q7 := cell_of_block (o := 2) g3
    have q8 := cell_of_block (o := 3) g3
    simp at q5 q6 q7 q8
    have hne : ∀ x ∈ fp, x ≠ w.heap.size := fun x hx e => by have h1 := (HFR.out.2 x hx).1; simp at h1; omega
    have ht := ((((HAT.out.below hb23).setCell (a := ⟨w.heap.size, 0, none⟩) hne (.int .i64 k)).setCell (a := ⟨w.heap.size, 1, none⟩) hne (.int .i64 g)).setCell (a := ⟨w.heap.size, 2, none⟩) hne (.int .i64 l)).setCell (a := ⟨w.heap.size, 3, none⟩) hne (.slice a m cap)
    have hf := ((((HFR.out.below hb23).setCell (a := ⟨w.heap.size, 0, none⟩) hne (.int .i64 k)).setCell (a := ⟨w.heap.size, 1, none⟩) hne (.int .i64 g)).setCell (a := ⟨w.heap.size, 2, none⟩) hne (.int .i64 l)).setCell (a := ⟨w.heap.size, 3, none⟩) hne (.slice a m cap)
    have HG := hid (And.intro ht (And.intro hf g2))
    clear hb3 hE3 hb23 hbb hM3 hB3 hv g2 g3 ht hf hne
    go_wp2_with fail
    refine bodyPost_ret (v := .tuple #[.agg #[.int .i64 k, .int .i64 g, .int .i64 l, .slice a m cap], .bool true]) (by simp [results, Try.results19, go_sem, q5, q6, q7, q8]) rfl ?_
    rw [HR.out.1, HR.out.2]
    exact ⟨k, g, l, a, m, cap, fp, rfl, HG.out.1, HG.out.2.1.mono (by simp; omega), HG.out.2.2⟩
end Go.Proofs.Ytgekfnodmgkdaaa

/- The program's readCoercion: what it says, and its arms that call no reader of coercions. -/
import Derived.Test.YtgekfnodmgkdaaaPc3
import Derived.Test.YtgekfnodmgkdaaaCk
namespace Go.Proofs.Ytgekfnodmgkdaaa
open Go.RowKit

/-- What reading says: nothing was read, or a coercion in new memory. -/
def RdK (b : Nat) (s : ByteArray) (r : Option (Co × Nat)) (w : World) (e : Ending) (w' : World) : Prop :=
  (r = none ∧ ∃ (k g l : Int) (a : Option Addr) (n c : Nat), e = .returned (.tuple #[.agg #[.int .i64 k, .int .i64 g, .int .i64 l, .slice a n c], .bool false]) ∧ (∃ j, CurAt b s j w') ∧ Cx b w w') ∨
  ∃ (t : Co) (j : Nat) (k g l : Int) (a : Option Addr) (n c : Nat) (fp : List Nat), r = some (t, j) ∧ e = .returned (.tuple #[.agg #[.int .i64 k, .int .i64 g, .int .i64 l, .slice a n c], .bool true]) ∧ t.At w' (.agg #[.int .i64 k, .int .i64 g, .int .i64 l, .slice a n c]) fp ∧ Fresh w.heap.size w' fp ∧ CurAt b s j w' ∧ Cx b w w'

def RkC (d : Nat) : Prop := ∀ (n : Int) (b : Nat) (s : ByteArray) (i : Nat) (w : World), n ≤ 100 → n.toNat = d → CurAt b s i w →
  Calls Try.prog 44 #[.pointer (some ⟨b, 0, none⟩), .int .i64 n] w (RdK b s (prc s d i) w)

/-- The result's cells stand while a cursor moves on. -/
theorem rk_box {w wr : World} {b : Nat} (h : Cx b (w.alloc (Obj.cells #[.int .i64 0, .int .i64 0, .int .i64 0, .slice none 0 0] 44)) wr) (hb : b < w.heap.size) :
    wr.cell? ⟨w.heap.size, 0, none⟩ = some (.int .i64 0) ∧ wr.cell? ⟨w.heap.size, 1, none⟩ = some (.int .i64 0) ∧ wr.cell? ⟨w.heap.size, 2, none⟩ = some (.int .i64 0) ∧ wr.cell? ⟨w.heap.size, 3, none⟩ = some (.slice none 0 0) ∧ (∀ o, wr.frozen? ⟨w.heap.size, o, none⟩ = false) ∧ w.heap.size < wr.heap.size := by
  have hk := h.blk (alloc_new w _) (by omega)
  exact ⟨by rw [cell_of_block hk]; rfl, by rw [cell_of_block hk]; rfl, by rw [cell_of_block hk]; rfl, by rw [cell_of_block hk]; rfl, fun o => frozen_of_block hk, lt_of_block hk⟩

/-- The end of a call that has laid its answer into the result's cells. -/
theorem rk_put {b : Nat} {s : ByteArray} {j : Nat} {w wr : World} (h : Cx b (w.alloc (Obj.cells #[.int .i64 0, .int .i64 0, .int .i64 0, .slice none 0 0] 44)) wr) (hb : b < w.heap.size) (hc : CurAt b s j wr) (x0 x1 x2 x3 : Value) :
    CurAt b s j ((((wr.setCell ⟨w.heap.size, 0, none⟩ x0).setCell ⟨w.heap.size, 1, none⟩ x1).setCell ⟨w.heap.size, 2, none⟩ x2).setCell ⟨w.heap.size, 3, none⟩ x3) ∧
    Cx b w ((((wr.setCell ⟨w.heap.size, 0, none⟩ x0).setCell ⟨w.heap.size, 1, none⟩ x1).setCell ⟨w.heap.size, 2, none⟩ x2).setCell ⟨w.heap.size, 3, none⟩ x3) ∧
    ((((wr.setCell ⟨w.heap.size, 0, none⟩ x0).setCell ⟨w.heap.size, 1, none⟩ x1).setCell ⟨w.heap.size, 2, none⟩ x2).setCell ⟨w.heap.size, 3, none⟩ x3).heap[w.heap.size]? = some (Obj.cells #[x0, x1, x2, x3] 44) :=
  ⟨(((hc.setNew (by simp; omega) x0).setNew (by simp; omega) x1).setNew (by simp; omega) x2).setNew (by simp; omega) x3,
   (((((Cx.refl b w).alloc _).trans h).setNew (by simp) x0).setNew (by simp) x1).setNew (by simp) x2 |>.setNew (by simp) x3,
   heap_setCell_at (heap_setCell_at (heap_setCell_at (heap_setCell_at (h.blk (alloc_new w _) (by omega)) x0) x1) x2) x3⟩

set_option maxHeartbeats 400000 in
theorem readCoercion_zero : RkC 0 := by
  intro n b s i w hn0 hn hc
  have hn2 : decide (n < 1) = true := by simp; omega
  have hn1 : n < 1 := by omega
  have H := hid (hc.below ((Below.refl _ _).alloc (Nat.le_refl _) (Obj.cells #[.int .i64 0, .int .i64 0, .int .i64 0, .slice none 0 0] 44)))
  have HF := hid ((Cx.refl b w).alloc (Obj.cells #[.int .i64 0, .int .i64 0, .int .i64 0, .slice none 0 0] 44))
  clear hn hc
  go_enter Try.func44, Try.ntmps44
  go_wp2_with fail
  exact bodyPost_ret (v := .tuple #[.agg #[.int .i64 0, .int .i64 0, .int .i64 0, .slice none 0 0], .bool false]) (by simp [results, Try.results44, go_sem]) rfl (.inl ⟨by simp only [prc], _, _, _, _, _, _, rfl, ⟨i, H.out⟩, HF.out⟩)

set_option linter.unusedVariables false in
set_option maxHeartbeats 1000000 in
theorem rc_id (d : Nat) (n : Int) (b : Nat) (s : ByteArray) (i : Nat) (w : World) (hn0 : n ≤ 100) (hn : n.toNat = d + 1) (hc : CurAt b s i w) (h40 : byt s i ≠ 40) (h33 : byt s i ≠ 33) (h35 : byt s i ≠ 35) (h88 : byt s i ≠ 88) :
    Calls Try.prog 44 #[.pointer (some ⟨b, 0, none⟩), .int .i64 n] w (RdK b s (prc s (d + 1) i) w) := by
  have hn1 : 1 ≤ n := by omega
  have hn2 : decide (n < 1) = false := by simp; omega
  have hb := hc.lt
  have H := hid (hc.below ((Below.refl _ _).alloc (Nat.le_refl _) (Obj.cells #[.int .i64 0, .int .i64 0, .int .i64 0, .slice none 0 0] 44)))
  have HB := hid (byt_lt s i)
  have q1 : ((byt s i : Int) == 40) = false := by simp; omega
  have q2 : ((byt s i : Int) == 33) = false := by simp; omega
  have q3 : ((byt s i : Int) == 35) = false := by simp; omega
  have q4 : ((byt s i : Int) == 88) = false := by simp; omega
  have HR := hid (show prc s (d + 1) i = some (.mk 1 (kos (byt s i)) 0 [], nxt s i) by rw [prc, if_neg h40, if_neg h33, if_neg h35, if_neg h88])
  clear hn hc h40 h33 h35 h88
  go_enter Try.func44, Try.ntmps44
  go_wp2_with fail
  refine (next_any b s i _ H.out).mono ?_
  rintro e w1 ⟨rfl, hc1, hx1⟩
  obtain ⟨r0, r1, r2, r3, rz, hM⟩ := rk_box hx1 hb
  obtain ⟨g1, g2, g3⟩ := rk_put hx1 hb hc1 (.int .i64 1) (.int .i64 (kos (byt s i))) (.int .i64 0) (.slice none 0 0)
  have q5 := cell_of_block (o := 0) g3
  have q6 := cell_of_block (o := 1) g3
  have q7 := cell_of_block (o := 2) g3
  have q8 := cell_of_block (o := 3) g3
  simp at q5 q6 q7 q8
  have HG := hid (And.intro g1 g2)
  clear g1 g2 g3 hc1 hx1
  go_wp2_with fail
  refine (kindOfSign_any _ HB.out _).mono ?_
  rintro e w2 ⟨rfl, rfl⟩
  go_wp2_with fail
  exact bodyPost_ret (v := .tuple #[.agg #[.int .i64 1, .int .i64 (kos (byt s i)), .int .i64 0, .slice none 0 0], .bool true]) (by simp [results, Try.results44, go_sem, q5, q6, q7, q8]) rfl (.inr ⟨_, _, _, _, _, _, _, _, [], HR.out, rfl, Co.at_mk.2 ⟨.slice none 0 0, rfl, CSl.nilA⟩, Fresh.nil _ _, HG.out.1, HG.out.2⟩)
end Go.Proofs.Ytgekfnodmgkdaaa

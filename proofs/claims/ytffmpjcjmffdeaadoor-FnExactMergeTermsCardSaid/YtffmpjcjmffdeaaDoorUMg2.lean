/- The program's MergeTerms. -/
import Derived.Deep.Cut
import Derived.Deep.RegionHeld3
import Derived.Test.YtffmpjcjmffdeaaDoorUMg1
import Derived.Test.YtffmpjcjmffdeaaDoorUWtA
import Derived.Test.YtffmpjcjmffdeaaDoorUG13
namespace Go.Proofs.YtffmpjcjmffdeaaDoor
open Go.RowKit

/-- What a meet says, in a box of its own. -/
def MdX (Z : World) (T : Ty) (bb : Bool) (s6 s7 : Value) (wx : World) : Prop :=
  ∃ b6 k n a c f, s6 = .pointer (some ⟨b6, 0, none⟩) ∧ s7 = .bool bb ∧ wx.heap[b6]? = some (.cells #[.int .i64 k, .slice a n c] 32 (0, 0)) ∧ T.At wx (.agg #[.int .i64 k, .slice a n c]) f ∧ Fresh Z.heap.size wx f ∧ Z.heap.size ≤ b6 ∧ Below Z.heap.size Z wx

theorem mdx_alloc {Z cur y : World} {T : Ty} {bb : Bool} {k : Int} {n c : Nat} {a : Option Addr} {f : List Nat} (hat : T.At y (.agg #[.int .i64 k, .slice a n c]) f) (hf : Fresh cur.heap.size y f) (hB : Below Z.heap.size Z cur) (hb : Below cur.heap.size cur y) :
    MdX Z T bb (.pointer (some ⟨y.heap.size, 0, none⟩)) (.bool bb) (y.alloc (Obj.cells #[.int .i64 k, .slice a n c] 32)) :=
  have hba := (Below.refl _ y).alloc (Nat.le_refl _) (Obj.cells #[.int .i64 k, .slice a n c] 32)
  ⟨_, k, n, a, c, f, rfl, rfl, alloc_new _ _, hat.below hba, (hf.below hba).mono hB.size, Nat.le_trans hB.size hb.size, below_trans (below_trans hB hb) hba⟩

theorem mdx_store {Z cur y : World} {P : Nat} {x0 x1 : Value} {T : Ty} {bb : Bool} {k : Int} {n c : Nat} {a : Option Addr} {f : List Nat} (hq : cur.heap[P]? = some (Obj.cells #[x0, x1] 32)) (hP : Z.heap.size ≤ P) (hat : T.At y (.agg #[.int .i64 k, .slice a n c]) f) (hf : Fresh cur.heap.size y f) (hB : Below Z.heap.size Z cur) (hb : Below cur.heap.size cur y) :
    MdX Z T bb (.pointer (some ⟨P, 0, none⟩)) (.bool bb) ((y.setCell ⟨P, 0, none⟩ (.int .i64 k)).setCell ⟨P, 1, none⟩ (.slice a n c)) := by
  have hlt := lt_of_block hq
  have hQ : y.heap[P]? = some (Obj.cells #[x0, x1] 32) := (hb.block _ hlt).trans hq
  have hne : ∀ b ∈ f, b ≠ P := fun b hm => by have := (hf.2 b hm).1; omega
  exact ⟨_, k, n, a, c, f, rfl, rfl, heap_setCell_at (heap_setCell_at hQ _) _, (hat.setCell hne _).setCell hne _, ((hf.setCell hne _).setCell hne _).mono hB.size, hP, ((below_trans hB hb).setCell (p := ⟨P, 0, none⟩) hP _).setCell (p := ⟨P, 1, none⟩) hP _⟩

set_option linter.unusedVariables false in
set_option linter.unusedSimpArgs false in
set_option maxRecDepth 100000 in
set_option maxHeartbeats 8000000 in
theorem implMerge (a b : Tm) (va vb : Value) (fa fb : List Nat) (w : World) (hza : a.sz ≤ 1048576) (hzb : b.sz ≤ 1048576) (hF : Forms w) (ha : a.At w va fa) (hb : b.At w vb fb) :
    Calls Tryd.prog 30 #[va, vb] w (MadeMB w (mgT a b) (mgB a b)) := by
  have hltA := ha.lt
  have HLTA := hid hltA
  obtain ⟨p0, p1, p2, p3, p4, p5, p6, p7, p8, p9, p10, p11, p12, p13, p14, rfl⟩ := ha.agg
  obtain ⟨q0, q1, q2, q3, q4, q5, q6, q7, q8, q9, q10, q11, q12, q13, q14, rfl⟩ := hb.agg
  have hb0 : Below w.heap.size w (((w.alloc (Obj.cells #[.int .i64 p0, .string p1, .int .i64 p2, .int .i64 p3, .slice p5 p4 p6, .int .i64 p7, .slice p9 p8 p10, .int .i64 p11, .slice p13 p12 p14] 35)).alloc (Obj.cells #[.int .i64 q0, .string q1, .int .i64 q2, .int .i64 q3, .slice q5 q4 q6, .int .i64 q7, .slice q9 q8 q10, .int .i64 q11, .slice q13 q12 q14] 35)).alloc (Obj.cells #[.int .i64 0, .string ByteArray.empty, .int .i64 0, .int .i64 0, .slice none 0 0, .int .i64 0, .slice none 0 0, .int .i64 0, .slice none 0 0] 35)) := ((((Below.refl _ _).alloc (Nat.le_refl _) _).alloc (by simp) _).alloc (by simp; omega) _)
  have HB0 := hid hb0
  have hs0 : (((w.alloc (Obj.cells #[.int .i64 p0, .string p1, .int .i64 p2, .int .i64 p3, .slice p5 p4 p6, .int .i64 p7, .slice p9 p8 p10, .int .i64 p11, .slice p13 p12 p14] 35)).alloc (Obj.cells #[.int .i64 q0, .string q1, .int .i64 q2, .int .i64 q3, .slice q5 q4 q6, .int .i64 q7, .slice q9 q8 q10, .int .i64 q11, .slice q13 q12 q14] 35)).alloc (Obj.cells #[.int .i64 0, .string ByteArray.empty, .int .i64 0, .int .i64 0, .slice none 0 0, .int .i64 0, .slice none 0 0, .int .i64 0, .slice none 0 0] 35)).heap.size = w.heap.size + 1 + 1 + 1 := by simp
  have HS0 := hid hs0
  have HF := hid hF
  have HOUT := hid (fun (W : World) (h : Below (((w.alloc (Obj.cells #[.int .i64 p0, .string p1, .int .i64 p2, .int .i64 p3, .slice p5 p4 p6, .int .i64 p7, .slice p9 p8 p10, .int .i64 p11, .slice p13 p12 p14] 35)).alloc (Obj.cells #[.int .i64 q0, .string q1, .int .i64 q2, .int .i64 q3, .slice q5 q4 q6, .int .i64 q7, .slice q9 q8 q10, .int .i64 q11, .slice q13 q12 q14] 35)).alloc (Obj.cells #[.int .i64 0, .string ByteArray.empty, .int .i64 0, .int .i64 0, .slice none 0 0, .int .i64 0, .slice none 0 0, .int .i64 0, .slice none 0 0] 35)).heap.size (((w.alloc (Obj.cells #[.int .i64 p0, .string p1, .int .i64 p2, .int .i64 p3, .slice p5 p4 p6, .int .i64 p7, .slice p9 p8 p10, .int .i64 p11, .slice p13 p12 p14] 35)).alloc (Obj.cells #[.int .i64 q0, .string q1, .int .i64 q2, .int .i64 q3, .slice q5 q4 q6, .int .i64 q7, .slice q9 q8 q10, .int .i64 q11, .slice q13 q12 q14] 35)).alloc (Obj.cells #[.int .i64 0, .string ByteArray.empty, .int .i64 0, .int .i64 0, .slice none 0 0, .int .i64 0, .slice none 0 0, .int .i64 0, .slice none 0 0] 35)) W) => three_out h)
  have HA := hid (fun (W : World) (h : Below (((w.alloc (Obj.cells #[.int .i64 p0, .string p1, .int .i64 p2, .int .i64 p3, .slice p5 p4 p6, .int .i64 p7, .slice p9 p8 p10, .int .i64 p11, .slice p13 p12 p14] 35)).alloc (Obj.cells #[.int .i64 q0, .string q1, .int .i64 q2, .int .i64 q3, .slice q5 q4 q6, .int .i64 q7, .slice q9 q8 q10, .int .i64 q11, .slice q13 q12 q14] 35)).alloc (Obj.cells #[.int .i64 0, .string ByteArray.empty, .int .i64 0, .int .i64 0, .slice none 0 0, .int .i64 0, .slice none 0 0, .int .i64 0, .slice none 0 0] 35)).heap.size (((w.alloc (Obj.cells #[.int .i64 p0, .string p1, .int .i64 p2, .int .i64 p3, .slice p5 p4 p6, .int .i64 p7, .slice p9 p8 p10, .int .i64 p11, .slice p13 p12 p14] 35)).alloc (Obj.cells #[.int .i64 q0, .string q1, .int .i64 q2, .int .i64 q3, .slice q5 q4 q6, .int .i64 q7, .slice q9 q8 q10, .int .i64 q11, .slice q13 q12 q14] 35)).alloc (Obj.cells #[.int .i64 0, .string ByteArray.empty, .int .i64 0, .int .i64 0, .slice none 0 0, .int .i64 0, .slice none 0 0, .int .i64 0, .slice none 0 0] 35)) W) => ha.below (below_trans hb0 h))
  have HSA := hid (implSameErasure a b _ _ _ _ (((w.alloc (Obj.cells #[.int .i64 p0, .string p1, .int .i64 p2, .int .i64 p3, .slice p5 p4 p6, .int .i64 p7, .slice p9 p8 p10, .int .i64 p11, .slice p13 p12 p14] 35)).alloc (Obj.cells #[.int .i64 q0, .string q1, .int .i64 q2, .int .i64 q3, .slice q5 q4 q6, .int .i64 q7, .slice q9 q8 q10, .int .i64 q11, .slice q13 q12 q14] 35)).alloc (Obj.cells #[.int .i64 0, .string ByteArray.empty, .int .i64 0, .int .i64 0, .slice none 0 0, .int .i64 0, .slice none 0 0, .int .i64 0, .slice none 0 0] 35)) hza hzb (hF.below hb0) (ha.below hb0) (hb.below hb0))
  have HTA := hid (fun (W : World) (h : Below (((w.alloc (Obj.cells #[.int .i64 p0, .string p1, .int .i64 p2, .int .i64 p3, .slice p5 p4 p6, .int .i64 p7, .slice p9 p8 p10, .int .i64 p11, .slice p13 p12 p14] 35)).alloc (Obj.cells #[.int .i64 q0, .string q1, .int .i64 q2, .int .i64 q3, .slice q5 q4 q6, .int .i64 q7, .slice q9 q8 q10, .int .i64 q11, .slice q13 q12 q14] 35)).alloc (Obj.cells #[.int .i64 0, .string ByteArray.empty, .int .i64 0, .int .i64 0, .slice none 0 0, .int .i64 0, .slice none 0 0, .int .i64 0, .slice none 0 0] 35)).heap.size (((w.alloc (Obj.cells #[.int .i64 p0, .string p1, .int .i64 p2, .int .i64 p3, .slice p5 p4 p6, .int .i64 p7, .slice p9 p8 p10, .int .i64 p11, .slice p13 p12 p14] 35)).alloc (Obj.cells #[.int .i64 q0, .string q1, .int .i64 q2, .int .i64 q3, .slice q5 q4 q6, .int .i64 q7, .slice q9 q8 q10, .int .i64 q11, .slice q13 q12 q14] 35)).alloc (Obj.cells #[.int .i64 0, .string ByteArray.empty, .int .i64 0, .int .i64 0, .slice none 0 0, .int .i64 0, .slice none 0 0, .int .i64 0, .slice none 0 0] 35)) W) => implTermTypes a _ _ W hza (hF.below (below_trans hb0 h)) (ha.below (below_trans hb0 h)))
  have HTB := hid (fun (W : World) (h : Below (((w.alloc (Obj.cells #[.int .i64 p0, .string p1, .int .i64 p2, .int .i64 p3, .slice p5 p4 p6, .int .i64 p7, .slice p9 p8 p10, .int .i64 p11, .slice p13 p12 p14] 35)).alloc (Obj.cells #[.int .i64 q0, .string q1, .int .i64 q2, .int .i64 q3, .slice q5 q4 q6, .int .i64 q7, .slice q9 q8 q10, .int .i64 q11, .slice q13 q12 q14] 35)).alloc (Obj.cells #[.int .i64 0, .string ByteArray.empty, .int .i64 0, .int .i64 0, .slice none 0 0, .int .i64 0, .slice none 0 0, .int .i64 0, .slice none 0 0] 35)).heap.size (((w.alloc (Obj.cells #[.int .i64 p0, .string p1, .int .i64 p2, .int .i64 p3, .slice p5 p4 p6, .int .i64 p7, .slice p9 p8 p10, .int .i64 p11, .slice p13 p12 p14] 35)).alloc (Obj.cells #[.int .i64 q0, .string q1, .int .i64 q2, .int .i64 q3, .slice q5 q4 q6, .int .i64 q7, .slice q9 q8 q10, .int .i64 q11, .slice q13 q12 q14] 35)).alloc (Obj.cells #[.int .i64 0, .string ByteArray.empty, .int .i64 0, .int .i64 0, .slice none 0 0, .int .i64 0, .slice none 0 0, .int .i64 0, .slice none 0 0] 35)) W) => implTermTypes b _ _ W hzb (hF.below (below_trans hb0 h)) (hb.below (below_trans hb0 h)))
  have HF1 := hid (mgF1 (a := a) (b := b))
  have HF2 := hid (mgF2 (a := a) (b := b))
  have HF3 := hid (mgF3 (a := a) (b := b))
  have HLEN := hid (sameE_len (a := a) (b := b))
  have HVA := hid (fun u (h : u ∈ tyLst a) => tyLst_vldMg h)
  have HVB := hid (fun u (h : u ∈ tyLst b) => tyLst_vldMg h)
  have HWT := hid (fun (L : List Ty) (s : Value) (lfp : List Nat) (W : World) (hF : Forms W) (h : a.At W (.agg #[.int .i64 p0, .string p1, .int .i64 p2, .int .i64 p3, .slice p5 p4 p6, .int .i64 p7, .slice p9 p8 p10, .int .i64 p11, .slice p13 p12 p14]) fa) (h2 : SlAt W L s lfp) => implWithTypes L a _ fa s lfp W hza hF h h2)
  have HSE0 := hid (show sameE a b = (vldM a && vldM b && tmEq (erT a) (erT b)) from rfl)
  rw [← HSE0.out] at HSA
  clear HSE0
  generalize mgT a b = E at *
  generalize mgB a b = ok at *
  generalize hse : sameE a b = se at *
  generalize tyLst a = A at *
  generalize tyLst b = B at *
  obtain ⟨h0, h1, -⟩ := HOUT.out _ (Below.refl _ _)
  obtain ⟨x0, x1, x2, x3, x4, x5, x6, x7, x8⟩ := cells9 h0
  obtain ⟨u0, u1, u2, u3, u4, u5, u6, u7, u8⟩ := cells9 h1
  clear ha hb hb0 h0 h1 hF hltA hse
  go_enter Tryd.func30, Tryd.ntmps30
  go_wp2_with fail
  refine HSA.out.mono ?_
  rintro e w3 ⟨rfl, hb3⟩
  have HB3 := hid hb3
  clear x0 x1 x2 x3 x4 x5 x6 x7 x8 u0 u1 u2 u3 u4 u5 u6 u7 u8 hb3
  cases se with
  | false =>
    have hZ := (HOUT.out _ HB3.out).2.2
    obtain ⟨y0, y1, y2, y3, y4, y5, y6, y7, y8⟩ := cells9 hZ
    have yz := fun o => frozen_of_block (o := o) hZ
    have hM := lt_of_block hZ
    have FIN := hid (zero_out (B := w.heap.size + 1 + 1) (below_trans HB0.out HB3.out) (by omega))
    have HE := hid (HF1.out rfl)
    clear hZ
    go_wp2_with fail
    rw [HE.out.1, HE.out.2]
    exact bodyPost_ret (v := .tuple #[.agg (Array.mk [.int .i64 0, .string ByteArray.empty, .int .i64 0, .int .i64 0, .slice none 0 0, .int .i64 0, .slice none 0 0, .int .i64 0, .slice none 0 0]), .bool false]) (by simp [results, Tryd.results30, go_sem, y0, y1, y2, y3, y4, y5, y6, y7, y8]; rfl) rfl FIN.out
  | true =>
  have HSE := hid (show (true : Bool) = true from rfl)
  have HLN := hid (HLEN.out rfl)
  obtain ⟨h0, h1, -⟩ := HOUT.out _ HB3.out
  obtain ⟨x0, x1, x2, x3, x4, x5, x6, x7, x8⟩ := cells9 h0
  obtain ⟨u0, u1, u2, u3, u4, u5, u6, u7, u8⟩ := cells9 h1
  have HS9 := hid (fun (W : World) (h : Below w3.heap.size w3 W) => (show W.cell? ⟨w.heap.size, 0, none⟩ = some (.int .i64 p0) ∧ W.cell? ⟨w.heap.size, 1, none⟩ = some (.string p1) ∧ W.cell? ⟨w.heap.size, 2, none⟩ = some (.int .i64 p2) ∧ W.cell? ⟨w.heap.size, 3, none⟩ = some (.int .i64 p3) ∧ W.cell? ⟨w.heap.size, 4, none⟩ = some (.slice p5 p4 p6) ∧ W.cell? ⟨w.heap.size, 5, none⟩ = some (.int .i64 p7) ∧ W.cell? ⟨w.heap.size, 6, none⟩ = some (.slice p9 p8 p10) ∧ W.cell? ⟨w.heap.size, 7, none⟩ = some (.int .i64 p11) ∧ W.cell? ⟨w.heap.size, 8, none⟩ = some (.slice p13 p12 p14) ∧ W.cell? ⟨w.heap.size + 1, 0, none⟩ = some (.int .i64 q0) ∧ W.cell? ⟨w.heap.size + 1, 1, none⟩ = some (.string q1) ∧ W.cell? ⟨w.heap.size + 1, 2, none⟩ = some (.int .i64 q2) ∧ W.cell? ⟨w.heap.size + 1, 3, none⟩ = some (.int .i64 q3) ∧ W.cell? ⟨w.heap.size + 1, 4, none⟩ = some (.slice q5 q4 q6) ∧ W.cell? ⟨w.heap.size + 1, 5, none⟩ = some (.int .i64 q7) ∧ W.cell? ⟨w.heap.size + 1, 6, none⟩ = some (.slice q9 q8 q10) ∧ W.cell? ⟨w.heap.size + 1, 7, none⟩ = some (.int .i64 q11) ∧ W.cell? ⟨w.heap.size + 1, 8, none⟩ = some (.slice q13 q12 q14) from ⟨cell_keep x0 h, cell_keep x1 h, cell_keep x2 h, cell_keep x3 h, cell_keep x4 h, cell_keep x5 h, cell_keep x6 h, cell_keep x7 h, cell_keep x8 h, cell_keep u0 h, cell_keep u1 h, cell_keep u2 h, cell_keep u3 h, cell_keep u4 h, cell_keep u5 h, cell_keep u6 h, cell_keep u7 h, cell_keep u8 h⟩))
  clear h0 h1 x0 x1 x2 x3 x4 x5 x6 x7 x8 u0 u1 u2 u3 u4 u5 u6 u7 u8
  go_wp2_with fail
  refine regionL (s := 3) (S0 := (fun _ => True)) (S1 := (fun w' => w'.cell? ⟨w.heap.size, 0, none⟩ = some (.int .i64 p0) ∧ w'.cell? ⟨w.heap.size, 1, none⟩ = some (.string p1) ∧ w'.cell? ⟨w.heap.size, 2, none⟩ = some (.int .i64 p2) ∧ w'.cell? ⟨w.heap.size, 3, none⟩ = some (.int .i64 p3) ∧ w'.cell? ⟨w.heap.size, 4, none⟩ = some (.slice p5 p4 p6) ∧ w'.cell? ⟨w.heap.size, 5, none⟩ = some (.int .i64 p7) ∧ w'.cell? ⟨w.heap.size, 6, none⟩ = some (.slice p9 p8 p10) ∧ w'.cell? ⟨w.heap.size, 7, none⟩ = some (.int .i64 p11) ∧ w'.cell? ⟨w.heap.size, 8, none⟩ = some (.slice p13 p12 p14) ∧ w'.cell? ⟨w.heap.size + 1, 0, none⟩ = some (.int .i64 q0) ∧ w'.cell? ⟨w.heap.size + 1, 1, none⟩ = some (.string q1) ∧ w'.cell? ⟨w.heap.size + 1, 2, none⟩ = some (.int .i64 q2) ∧ w'.cell? ⟨w.heap.size + 1, 3, none⟩ = some (.int .i64 q3) ∧ w'.cell? ⟨w.heap.size + 1, 4, none⟩ = some (.slice q5 q4 q6) ∧ w'.cell? ⟨w.heap.size + 1, 5, none⟩ = some (.int .i64 q7) ∧ w'.cell? ⟨w.heap.size + 1, 6, none⟩ = some (.slice q9 q8 q10) ∧ w'.cell? ⟨w.heap.size + 1, 7, none⟩ = some (.int .i64 q11) ∧ w'.cell? ⟨w.heap.size + 1, 8, none⟩ = some (.slice q13 q12 q14))) (by kernel_rfl) (trivial) (HS9.out _ (below_drew w3)) (fun hS0 => ?_)
  refine takeL (i := 0) (v := ?vr1) rfl (by kernel_rfl) (by kernel_rfl) (by kernel_rfl) (by decide) (fun _ _ _ h => h) (Or.inl ⟨by rfl, ?hyr1⟩) (by assumption) ?_
  case hyr1 => (intro w hSw; (try dsimp only at hSw); go_simp; (try with_reducible rfl))
  try simp only [Act.put, List.setIfInBounds_toArray, List.set_cons_zero, List.set_cons_succ]
  refine takeL0 (i := 2) (v := ?vr2) rfl rfl (by kernel_rfl) (by kernel_rfl) (by kernel_rfl) (by decide) (by kernel_rfl) (by kernel_rfl) (fun _ _ _ h => h) (Or.inl ⟨by rfl, ?hyr2⟩) (by assumption) ?_
  case hyr2 => (intro w hSw; (try dsimp only at hSw); go_simp; (try with_reducible rfl))
  try simp only [Act.put, List.setIfInBounds_toArray, List.set_cons_zero, List.set_cons_succ]
  refine readyL (rs := [1]) (by kernel_rfl) (by simp) ?_
  refine AllReadyL.cons rfl (fun K hK => ?_) AllReadyL.nil
  go_simp
  refine (HTA.out _ (below_trans HB3.out (below_drew w3))).mono ?_
  rintro e w4 ⟨s1, f1, rfl, hs1, hf1, hb4⟩
  have hkA : Below w3.heap.size w3 w4 := below_trans (below_drew w3) hb4
  refine hK.out _ _ ?_ (fun hS1 => ?_)
  · exact ⟨HS9.out _ hkA, fun _ => trivial⟩
  clear hK K hS0
  try simp only [Act.put, List.setIfInBounds_toArray, List.set_cons_zero, List.set_cons_succ]
  refine readyL (rs := [3]) (by kernel_rfl) (by simp) ?_
  refine AllReadyL.cons rfl (fun K hK => ?_) AllReadyL.nil
  go_simp
  refine (HTB.out _ (below_trans HB3.out hkA)).mono ?_
  rintro e w5 ⟨s2, f2, rfl, hs2, hf2, hb5⟩
  have hkB : Below w3.heap.size w3 w5 := below_trans hkA hb5
  refine hK.out _ _ ?_ (fun hS2 => ?_)
  · exact ⟨HS9.out _ hkB, fun h => absurd (h.symm.trans (show _ = true by kernel_rfl)) (by decide)⟩
  clear hK K hS1
  try simp only [Act.put, List.setIfInBounds_toArray, List.set_cons_zero, List.set_cons_succ]
  refine readyL (rs := [4]) (by kernel_rfl) (by simp) ?_
  refine AllReadyL.cons rfl (fun K hK => ?_) AllReadyL.nil
  go_simp
  refine hK.out _ _ ?_ (fun hS3 => ?_)
  · exact ⟨HS9.out _ hkB, fun h => absurd (h.symm.trans (show _ = true by kernel_rfl)) (by decide)⟩
  clear hK K hS2
  try simp only [Act.put, List.setIfInBounds_toArray, List.set_cons_zero, List.set_cons_succ]
  refine readyL (rs := [5]) (by kernel_rfl) (by simp) ?_
  refine AllReadyL.cons rfl (fun K hK => ?_) AllReadyL.nil
  go_simp
  refine hK.out _ _ ?_ (fun hS4 => ?_)
  · exact ⟨HS9.out _ hkB, fun h => absurd (h.symm.trans (show _ = true by kernel_rfl)) (by decide)⟩
  clear hK K hS3
  try simp only [Act.put, List.setIfInBounds_toArray, List.set_cons_zero, List.set_cons_succ]
  refine doneL (by kernel_rfl) ?_ _
  have HB5 := hid (below_trans HB3.out hkB)
  have hs15 := hs1.below hb5
  have hlt4 := hs1.lt
  have hw3s := hkA.size
  clear HS9
  rcases hs15 with ⟨rfl, rfl, a1, cap1, rfl⟩ | ⟨b1, o1, cap1, g1, rfl, hp1, hcap1, hm1, hl1, rfl⟩
  · have HE := hid (HF3.out HSE.out (by simp [allC]))
    clear hs1 hf1 hb4 hs2 hf2 hb5 hlt4 hkA hkB
    go_wp2_with fail
    go_loopw [22] (fun i wr => i = .int .i64 0 ∧ wr = w5) (fun _ _ => 0)
    case atStart => exact ⟨rfl, rfl⟩
    case round =>
      obtain ⟨rfl, rfl⟩ := hrel
      have hA9 := (HOUT.out _ HB5.out).1
      have HZ9 := hid (HOUT.out _ HB5.out).2.2
      obtain ⟨x0, x1, x2, x3, x4, x5, x6, x7, x8⟩ := cells9 hA9
      have HFW := hid (HF.out.below (below_trans HB0.out HB5.out))
      have HW9 := hid (HWT.out _ _ _ _ HFW.out (HA.out _ HB5.out) (show SlAt wr (mts [] B) (.slice a1 0 cap1) [] from .inl ⟨rfl, rfl, _, _, rfl⟩))
      have HB9 := hid (below_trans HB0.out HB5.out)
      clear hA9
      go_wp2_with fail
      refine HW9.out.mono ?_
      rintro e w9 ⟨v', f', rfl, hu, hf, hb9⟩
      obtain ⟨r0, r1, r2, r3, r4, r5, r6, r7, r8, r9, r10, r11, r12, r13, r14, rfl⟩ := hu.agg
      have hZ4 := blk HZ9.out hb9
      obtain ⟨y0, y1, y2, y3, y4, y5, y6, y7, y8⟩ := cells9 hZ4
      have yz := fun o => frozen_of_block (o := o) hZ4
      have hM := lt_of_block hZ4
      have hsr := lt_of_block HZ9.out
      have b9 := below_trans HB9.out hb9
      have ab : Above wr.heap.size w9 (put w9 (w.heap.size + 1 + 1) 0 [.int .i64 r0, .string r1, .int .i64 r2, .int .i64 r3, .slice r5 r4 r6, .int .i64 r7, .slice r9 r8 r10, .int .i64 r11, .slice r13 r12 r14]) := (Above.refl _ _).put (by omega)
      have FIN := hid (show MadeMB w (wiM (mts [] B) a) (wiOk (mts [] B) a) (.returned (.tuple #[.agg (Array.mk [.int .i64 r0, .string r1, .int .i64 r2, .int .i64 r3, .slice r5 r4 r6, .int .i64 r7, .slice r9 r8 r10, .int .i64 r11, .slice r13 r12 r14]), .bool (wiOk (mts [] B) a)])) (put w9 (w.heap.size + 1 + 1) 0 [.int .i64 r0, .string r1, .int .i64 r2, .int .i64 r3, .slice r5 r4 r6, .int .i64 r7, .slice r9 r8 r10, .int .i64 r11, .slice r13 r12 r14]) from
        ⟨_, f', rfl, hu.above ab hf.ge, (hf.above ab (Nat.le_refl _)).mono (by omega), below_put b9 (by omega)⟩)
      generalize wiOk (mts [] B) a = okk at *
      generalize wiM (mts [] B) a = EE at *
      clear x0 x1 x2 x3 x4 x5 x6 x7 x8 hu hf hb9 hZ4 b9 ab HW9
      go_wp2_with fail
      rw [HE.out.1, HE.out.2]
      exact bodyPost_ret (v := .tuple #[.agg (Array.mk [.int .i64 r0, .string r1, .int .i64 r2, .int .i64 r3, .slice r5 r4 r6, .int .i64 r7, .slice r9 r8 r10, .int .i64 r11, .slice r13 r12 r14]), .bool okk]) (by simp [results, Tryd.results30, go_sem, y0, y1, y2, y3, y4, y5, y6, y7, y8]) rfl FIN.out
  · obtain ⟨a2, cap2, rfl, hcap2, hm2, hget2⟩ := hs2.openA
    have hb1lt4 : b1 < w4.heap.size := hlt4 b1 (by simp)
    have hb1ge : w3.heap.size ≤ b1 := (hf1.2 b1 (by simp)).1
    have hw3 : w.heap.size + 1 + 1 + 1 ≤ w3.heap.size := by have := HB3.out.size; rw [HS0.out] at this; exact this
    have hnin : b1 ∉ g1 := (List.nodup_cons.1 hf1.1).1
    have HFZ5 := hid (show ∀ o, w5.frozen? ⟨b1, o, none⟩ = false from fun o => (hb5.frozen (p := ⟨b1, o, none⟩) hb1lt4).trans ((hf1.2 b1 (by simp)).2.2 o))
    have hlt5 : b1 < w5.heap.size := Nat.lt_of_lt_of_le hb1lt4 hb5.size
    have HFR := hid (fun (W : World) (h : Only [b1] w5 W) => (show W.heap[w.heap.size]? = some (Obj.cells #[.int .i64 p0, .string p1, .int .i64 p2, .int .i64 p3, .slice p5 p4 p6, .int .i64 p7, .slice p9 p8 p10, .int .i64 p11, .slice p13 p12 p14] 35) ∧ W.heap[w.heap.size + 1]? = some (Obj.cells #[.int .i64 q0, .string q1, .int .i64 q2, .int .i64 q3, .slice q5 q4 q6, .int .i64 q7, .slice q9 q8 q10, .int .i64 q11, .slice q13 q12 q14] 35) ∧ W.heap[w.heap.size + 1 + 1]? = some (Obj.cells #[.int .i64 0, .string ByteArray.empty, .int .i64 0, .int .i64 0, .slice none 0 0, .int .i64 0, .slice none 0 0, .int .i64 0, .slice none 0 0] 35) ∧ a.At W (.agg #[.int .i64 p0, .string p1, .int .i64 p2, .int .i64 p3, .slice p5 p4 p6, .int .i64 p7, .slice p9 p8 p10, .int .i64 p11, .slice p13 p12 p14]) fa ∧ Below w.heap.size w W from by
      obtain ⟨h0, h1, h2⟩ := HOUT.out _ HB5.out
      have hw5 := HB5.out.size
      rw [HS0.out] at hw5
      exact ⟨(h.block _ (by omega) (by simp; omega)).trans h0, (h.block _ (by omega) (by simp; omega)).trans h1, (h.block _ (by omega) (by simp; omega)).trans h2, (HA.out _ HB5.out).onlyMg h (fun x hx => by have := HLTA.out x hx; simp; omega), onlyBelow (below_trans HB0.out HB5.out) h (by omega) (by simp; omega)⟩))
    have HS2 := hid (fun (W : World) (h : Only [b1] w5 W) => (hs2.onlyMg h (fun x hx => by have := (hf2.2 x hx).1; simp; omega)))
    have HL5 := hid hl1
    have HLT5 := hid hlt5
    have hAm : A.length ≤ 9223372036854775807 := hm1
    have hBm : B.length ≤ 9223372036854775807 := hm2
    clear hs1 hf1 hb4 hs2 hf2 hb5 hlt4 hl1 hget2 hb1lt4 hw3 hkA hkB hw3s
    go_wp2_with fail
    go_loopw [22] (fun i wr => ∃ (j : Nat) (f : List Nat), j ≤ A.length ∧ i = .int .i64 j ∧ (∀ i, i < j → consOf (nthT A i) (nthT B i) = true) ∧ Ty.AtL wr (curT A B j) b1 o1 f ∧ b1 ∉ f ∧ Only [b1] w5 wr) (fun i _ => A.length - (intOf i).toNat)
    case atStart => exact ⟨0, g1, Nat.zero_le _, rfl, fun i h => by omega, by rw [curT_zero]; exact HL5.out, hnin, Only.refl _ _⟩
    case round =>
      obtain ⟨j, f, hj, rfl, hcc, hl, hbf, hon⟩ := hrel
      have HCC := hid hcc
      have HL := hid hl
      have HBF := hid hbf
      have HON := hid hon
      by_cases hlk : j < A.length
      · have hcl := curT_len A B (Nat.le_of_lt hlk)
        have hjB : j < B.length := by have := HLN.out; omega
        obtain ⟨kx, nx, ax, cx, gx, c0, c1, hatx⟩ := row_get hl j (by omega)
        rw [curT_get A B hlk] at hatx
        obtain ⟨a2', cap2', e2, -, -, hget⟩ := (HS2.out wr hon).openA
        simp only [Value.slice.injEq, true_and] at e2
        obtain ⟨rfl, rfl⟩ := e2
        obtain ⟨b2, o2, ky, ny, ay, cy, gy, rfl, hlt2, d0, d1, haty, -⟩ := hget j hjB
        have hvA := HVA.out A[j] (List.getElem_mem hlk)
        have hvB := HVB.out (B[j]'hjB) (List.getElem_mem hjB)
        have hnA : nthT A j = A[j] := nthT_eq hlk
        have hnB : nthT B j = B[j]'hjB := nthT_eq hjB
        have HS := hid (fun (W : World) (h : Below wr.heap.size wr W) => (show W.cell? ⟨b1, o1 + j * 2, none⟩ = some (.int .i64 kx) ∧ W.cell? ⟨b1, o1 + j * 2 + 1, none⟩ = some (.slice ax nx cx) ∧ W.cell? ⟨b2, o2 + j * 2, none⟩ = some (.int .i64 ky) ∧ W.cell? ⟨b2, o2 + j * 2 + 1, none⟩ = some (.slice ay ny cy) from ⟨cell_keep c0 h, cell_keep c1 h, cell_keep d0 h, cell_keep d1 h⟩))
        have hlbr : b1 < wr.heap.size := World.block_lt_of_cell? _ _ c0
        have HFZ := hid (fun (W : World) (h : Below wr.heap.size wr W) => (show ∀ o, W.frozen? ⟨b1, o, none⟩ = false from fun o => (h.frozen (p := ⟨b1, o, none⟩) hlbr).trans ((hon.frozen b1 o HLT5.out).trans (HFZ5.out o))))
        have HLB := hid hlbr
        have HJ1 := hid (show j < (curT A B j).length by omega)
        have HCU := hid (curT_set A B hlk)
        have HMT := hid (fun (W : World) (h : Below wr.heap.size wr W) => (show Calls Tryd.prog 77 #[.agg #[.int .i64 kx, .slice ax nx cx], .agg #[.int .i64 ky, .slice ay ny cy]] W (MadeTB W (meetOf (nthT A j) (nthT B j)) (consOf (nthT A j) (nthT B j))) from by
          rw [hnA, hnB]
          exact implMeetTypes A[j] (B[j]'hjB) _ _ _ _ W (hatx.below h) (haty.below h) (shp_cnt8 hvA (Nat.le_refl 4)) (shp_cnt8 hvB (Nat.le_refl 4))))
        have HJ := hid hlk
        have hj0 : (0 : Int) ≤ (j : Int) := by omega
        have hj1 : (j : Int) < (A.length : Int) := by omega
        have hj2 : (j : Int) < (B.length : Int) := by omega
        obtain ⟨MM, hMM⟩ : ∃ MM, meetOf (nthT A j) (nthT B j) = MM := ⟨_, rfl⟩
        rw [hMM] at HMT HCU
        obtain ⟨cc, hcc9⟩ : ∃ cc, consOf (nthT A j) (nthT B j) = cc := ⟨_, rfl⟩
        rw [hcc9] at HMT
        have HC1 := hid hcc9
        clear hMM hcc9 hcc hl hbf hon hatx haty hget hvA hvB hnA hnB hcl
        go_wp2_with fail
        go_cut [9, 10] (fun s6 s7 wx => MdX wr MM cc s6 s7 wx)
        case first =>
          go_region_held3 (fun w' => Below wr.heap.size wr w' ∧ w'.cell? ⟨b1, o1 + j * 2, none⟩ = some (.int .i64 kx) ∧ w'.cell? ⟨b1, o1 + j * 2 + 1, none⟩ = some (.slice ax nx cx) ∧ w'.cell? ⟨b2, o2 + j * 2, none⟩ = some (.int .i64 ky) ∧ w'.cell? ⟨b2, o2 + j * 2 + 1, none⟩ = some (.slice ay ny cy))
            ((refine (fun hB => ⟨hB, cell_keep c0 hB, cell_keep c1 hB, cell_keep d0 hB, cell_keep d1 hB⟩ : Below wr.heap.size wr _ → _) ?_; (first | with_reducible exact below_drew wr | with_reducible exact hkB | (go_split_ands; first | with_reducible exact Below.alloc (by with_reducible assumption) (Below.size (by with_reducible assumption)) _ | exact (hkB.setCell (p := ⟨wr.heap.size, 0, none⟩) (Nat.le_refl _) _).setCell (p := ⟨wr.heap.size, 1, none⟩) (Nat.le_refl _) _ | exact Below.alloc (by with_reducible assumption) (Below.size (by with_reducible assumption)) _))))
            (first
              | (go_at_call 77; go_split_ands; refine (HMT.out _ (by assumption)).mono ?_; rintro e y2 ⟨vm, fm, rfl, hatm, hfm, hy2⟩; obtain ⟨k, n, a, c, rfl⟩ := hatm.agg; have hkB : Below wr.heap.size wr y2 := below_trans (by assumption) hy2; (first
                  | (have Q4 : y2.heap[wr.heap.size]? = some (Obj.cells #[.int .i64 0, .slice none 0 0] 32) := (hy2.block wr.heap.size (by first | (show wr.heap.size < (wr.alloc _).heap.size; simp) | simp)).trans (alloc_new wr _); have f0 := (fun o => frozen_of_block (o := o) Q4); have d0' : y2.cell? ⟨wr.heap.size, 0, none⟩ = some (.int .i64 0) := (by rw [cell_of_block Q4]; rfl); have d1' : y2.cell? ⟨wr.heap.size, 1, none⟩ = some (.slice none 0 0) := (by rw [cell_of_block Q4]; rfl); have hl3 := lt_of_block Q4)
                  | skip)))
          all_goals
            repeat (rename (World.cell? _ _ = some _) => hq; clear hq)
            go_wp2_with fail
            go_meet
            first
              | exact mdx_alloc hatm hfm (below_drew wr) hy2
              | exact mdx_alloc hatm hfm (Below.refl _ _) hy2
              | exact mdx_store (alloc_new wr _) (Nat.le_refl _) hatm hfm ((Below.refl _ wr).alloc (Nat.le_refl _) _) hy2
              | exact mdx_store (alloc_new wr.drew _) (Nat.le_refl _) hatm hfm ((below_drew wr).alloc (Nat.le_refl _) _) hy2
        case rest =>
        obtain ⟨b6, k, n, a, c, fm, rfl, rfl, hb6, hatm, hfm, hge, hbc⟩ := hcut
        have m0 : wc.cell? ⟨b6, 0, none⟩ = some (.int .i64 k) := by rw [cell_of_block hb6]; rfl
        have m1 : wc.cell? ⟨b6, 1, none⟩ = some (.slice a n c) := by rw [cell_of_block hb6]; rfl
        have ml := lt_of_block hb6
        have HBC := hid hbc
        have HM := hid (And.intro hatm hfm)
        replace c0 := cell_keep c0 hbc
        replace c1 := cell_keep c1 hbc
        clear d0 d1 hatm hfm hbc hb6 HMT
        cases cc with
        | false =>
          have hZ := (HFR.out wc (HON.out.trans (only_of_below HBC.out))).2.2.1
          obtain ⟨y0, y1, y2, y3, y4, y5, y6, y7, y8⟩ := cells9 hZ
          have yz := fun o => frozen_of_block (o := o) hZ
          have hM := lt_of_block hZ
          have FIN := hid (zero_out (B := w.heap.size + 1 + 1) (HFR.out wc (HON.out.trans (only_of_below HBC.out))).2.2.2.2 (by omega))
          have HE := hid (HF2.out (allC_false HJ.out HC1.out))
          clear hZ c0 c1 m0 m1 HS HFZ
          go_wp2_with fail
          rw [HE.out.1, HE.out.2]
          exact bodyPost_ret (v := .tuple #[.agg (Array.mk [.int .i64 0, .string ByteArray.empty, .int .i64 0, .int .i64 0, .slice none 0 0, .int .i64 0, .slice none 0 0, .int .i64 0, .slice none 0 0]), .bool false]) (by simp [results, Tryd.results30, go_sem, y0, y1, y2, y3, y4, y5, y6, y7, y8]; rfl) rfl FIN.out
        | true =>
          have fz := HFZ.out wc HBC.out
          have hlb : b1 < wc.heap.size := Nat.lt_of_lt_of_le HLB.out HBC.out.size
          have hgb : b1 ∉ fm := fun hm => by have h1 := (HM.out.2.2 b1 hm).1; have h2 := HLB.out; omega
          obtain ⟨f9, hl9, hb9⟩ := row_set (x := .int .i64 k) (y := .slice a n c) HL.out HBC.out HBF.out HJ1.out HM.out.1 hgb
          rw [HCU.out] at hl9
          have HR := hid (And.intro hl9 hb9)
          have HON2 := hid ((HON.out.trans (only_of_below (fp := [b1]) HBC.out)).trans ((Only.setCell (fp := [b1]) (b := b1) (o := o1 + j * 2) (by simp) (.int .i64 k)).trans (Only.setCell (fp := [b1]) (b := b1) (o := o1 + j * 2 + 1) (by simp) (.slice a n c))))
          have HCC2 := hid (show ∀ i, i < j + 1 → consOf (nthT A i) (nthT B i) = true from fun i hi => by by_cases h : i < j; exact HCC.out i h; obtain rfl : i = j := (by omega); exact HC1.out)
          clear hl9 hb9 hgb HS HFZ
          go_wp2_with fail
          exact ⟨⟨j + 1, f9, by omega, by go_num, HCC2.out, HR.out.1, HR.out.2, HON2.out⟩, by simp [intOf]; omega⟩
      · obtain rfl : j = A.length := by omega
        rw [curT_all] at hl
        have hac := allC_true hcc
        have HE := hid (HF3.out HSE.out hac)
        have HSL := hid (show SlAt wr (mts A B) (.slice (some ⟨b1, o1, none⟩) A.length cap1) (b1 :: f) from by
          have hml := mts_len A B
          refine .inr ⟨b1, o1, cap1, f, by rw [hml], by omega, by omega, by unfold maxLen; omega, hl, rfl⟩)
        clear hl hbf hcc hac
        have hA9 := (HFR.out wr hon).1
        have HZ9 := hid (HFR.out wr hon).2.2.1
        obtain ⟨x0, x1, x2, x3, x4, x5, x6, x7, x8⟩ := cells9 hA9
        have HFW := hid (HF.out.below (HFR.out wr hon).2.2.2.2)
        have HW9 := hid (HWT.out _ _ _ _ HFW.out (HFR.out wr hon).2.2.2.1 HSL.out)
        have HB9 := hid (HFR.out wr hon).2.2.2.2
        clear hA9
        go_wp2_with fail
        refine HW9.out.mono ?_
        rintro e w9 ⟨v', f', rfl, hu, hf, hb9⟩
        obtain ⟨r0, r1, r2, r3, r4, r5, r6, r7, r8, r9, r10, r11, r12, r13, r14, rfl⟩ := hu.agg
        have hZ4 := blk HZ9.out hb9
        obtain ⟨y0, y1, y2, y3, y4, y5, y6, y7, y8⟩ := cells9 hZ4
        have yz := fun o => frozen_of_block (o := o) hZ4
        have hM := lt_of_block hZ4
        have hsr := lt_of_block HZ9.out
        have b9 := below_trans HB9.out hb9
        have ab : Above wr.heap.size w9 (put w9 (w.heap.size + 1 + 1) 0 [.int .i64 r0, .string r1, .int .i64 r2, .int .i64 r3, .slice r5 r4 r6, .int .i64 r7, .slice r9 r8 r10, .int .i64 r11, .slice r13 r12 r14]) := (Above.refl _ _).put (by omega)
        have FIN := hid (show MadeMB w (wiM (mts A B) a) (wiOk (mts A B) a) (.returned (.tuple #[.agg (Array.mk [.int .i64 r0, .string r1, .int .i64 r2, .int .i64 r3, .slice r5 r4 r6, .int .i64 r7, .slice r9 r8 r10, .int .i64 r11, .slice r13 r12 r14]), .bool (wiOk (mts A B) a)])) (put w9 (w.heap.size + 1 + 1) 0 [.int .i64 r0, .string r1, .int .i64 r2, .int .i64 r3, .slice r5 r4 r6, .int .i64 r7, .slice r9 r8 r10, .int .i64 r11, .slice r13 r12 r14]) from
          ⟨_, f', rfl, hu.above ab hf.ge, (hf.above ab (Nat.le_refl _)).mono (by omega), below_put b9 (by omega)⟩)
        generalize wiOk (mts A B) a = okk at *
        generalize wiM (mts A B) a = EE at *
        clear x0 x1 x2 x3 x4 x5 x6 x7 x8 hu hf hb9 hZ4 b9 ab HW9
        go_wp2_with fail
        rw [HE.out.1, HE.out.2]
        exact bodyPost_ret (v := .tuple #[.agg (Array.mk [.int .i64 r0, .string r1, .int .i64 r2, .int .i64 r3, .slice r5 r4 r6, .int .i64 r7, .slice r9 r8 r10, .int .i64 r11, .slice r13 r12 r14]), .bool okk]) (by simp [results, Tryd.results30, go_sem, y0, y1, y2, y3, y4, y5, y6, y7, y8]) rfl FIN.out
end Go.Proofs.YtffmpjcjmffdeaaDoor

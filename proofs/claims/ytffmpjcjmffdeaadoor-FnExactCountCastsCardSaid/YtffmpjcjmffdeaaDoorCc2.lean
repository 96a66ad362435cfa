/- The program's CountCasts. -/
import Derived.Test.YtffmpjcjmffdeaaDoorCc1
namespace Go.Proofs.YtffmpjcjmffdeaaDoor
open Go.RowKit

theorem callOk_cc : CallOkT 52 := fun _ _ => by kernel_rfl

/-- The variable of block M holds the number of casts that have been visited. -/
def CcAt (M B : Nat) (c : Nat) (v : Value) (w : World) : Prop := w.heap[M]? = some (.cells #[.int .i64 (c : Int)] 3 (0, 0)) ∧ v = .int .u32 0 ∧ M < B

theorem CcAt.below {M B : Nat} {c : Nat} {v : Value} {w w' : World} (h : CcAt M B c v w) (hb : Below w.heap.size w w') : CcAt M B c v w' := ⟨blk h.1 hb, h.2.1, h.2.2⟩

theorem cc_close {w : World} {M B c : Nat} (o : Obj) (hO : w.heap[M]? = some (.cells #[.int .i64 (c : Int)] 3 (0, 0))) (hMB : M < B) :
    CcAt M B (c + 1) (.int .u32 0) ((w.setCell ⟨M, 0, none⟩ (.int .i64 ((c : Int) + 1))).alloc o) ∧ Lr M w ((w.setCell ⟨M, 0, none⟩ (.int .i64 ((c : Int) + 1))).alloc o) (.int .u32 0) (.int .u32 0) := by
  have hb : Below (w.setCell ⟨M, 0, none⟩ (.int .i64 ((c : Int) + 1))).heap.size (w.setCell ⟨M, 0, none⟩ (.int .i64 ((c : Int) + 1))) ((w.setCell ⟨M, 0, none⟩ (.int .i64 ((c : Int) + 1))).alloc o) := (Below.refl _ _).alloc (Nat.le_refl _) _
  have hsz := size_setCell w ⟨M, 0, none⟩ (.int .i64 ((c : Int) + 1))
  refine ⟨⟨blk (heap_setCell_at hO _) hb, rfl, hMB⟩, ⟨⟨hb.os, hb.tape, hb.output, ?_⟩, fun k hk hkM _ => ?_, .inl rfl⟩⟩
  · have := hb.size
    omega
  · rw [hb.block k (by omega), Below.heap_setCell _ _ _ _ hkM]

set_option maxRecDepth 100000 in
set_option maxHeartbeats 2000000 in
theorem visitCc (M B : Nat) : VisC 52 #[.pointer (some ⟨M, 0, none⟩)] M B (CcAt M B) id ccStep := by
  intro c v nm num ty fr lb ts k1 n1 a1 c1 k2 n2 a2 c2 a3 c3 fp w hS hat hown4 hfp hBw hlen
  obtain ⟨hO, rfl, hMB⟩ := hS
  have hb0 : Below w.heap.size w (w.alloc (Obj.cells #[.int .i64 14, .string nm, .int .i64 num, .int .i64 k1, .slice a1 n1 c1, .int .i64 k2, .slice a2 n2 c2, .int .i64 lb, .slice a3 ts.length c3] 35)) := (Below.refl _ _).alloc (Nat.le_refl _) _
  have HO1 := hid (blk hO hb0)
  have hMlt : M < w.heap.size := by omega
  have hMl : M < ((w.alloc (Obj.cells #[.int .i64 14, .string nm, .int .i64 num, .int .i64 k1, .slice a1 n1 c1, .int .i64 k2, .slice a2 n2 c2, .int .i64 lb, .slice a3 ts.length c3] 35))).heap.size := by simp; omega
  have yM : ((w.alloc (Obj.cells #[.int .i64 14, .string nm, .int .i64 num, .int .i64 k1, .slice a1 n1 c1, .int .i64 k2, .slice a2 n2 c2, .int .i64 lb, .slice a3 ts.length c3] 35))).cell? ⟨M, 0, none⟩ = some (.int .i64 (c : Int)) := by rw [cell_of_block HO1.out]; rfl
  have yF := fun o => frozen_of_block (o := o) HO1.out
  have HF := hid (cc_close (w := w) (Obj.cells #[.int .i64 14, .string nm, .int .i64 num, .int .i64 k1, .slice a1 n1 c1, .int .i64 k2, .slice a2 n2 c2, .int .i64 lb, .slice a3 ts.length c3] 35) hO hMB)
  have hc0 : (0 : Int) ≤ (c : Int) := by omega
  have hc1 : (c : Int) + 1 ≤ 4194301 := by simp only [id] at hlen; omega
  clear hat hO hown4 hfp
  go_enter Tryd.func52, Tryd.ntmps52
  go_wp2_with fail
  first | go_ret | go_end0 | skip
  obtain ⟨q1, q2⟩ := HF.out
  exact ⟨⟨_, rfl⟩, _, q1, q2⟩

set_option maxRecDepth 100000 in
set_option maxHeartbeats 2000000 in
theorem implCountCasts (t : Tm) (v : Value) (fp : List Nat) (w : World) (hsz : t.sz ≤ 1048576) (hF : Forms w) (hat : t.At w v fp) :
    Calls Tryd.prog 13 #[v] w fun e w' => e = .returned (.int .i64 ((ccO t : Nat) : Int)) ∧ Below w.heap.size w w' := by
  have hlt := hat.lt
  have HLT := hid hlt
  clear hlt
  have hat0 := hat
  obtain ⟨k, nm, num, k1, n1, a1, c1, k2, n2, a2, c2, lb, n3, a3, c3, rfl⟩ := hat.agg
  have hb0 : Below w.heap.size w (w.alloc (Obj.cells #[.int .i64 k, .string nm, .int .i64 num, .int .i64 k1, .slice a1 n1 c1, .int .i64 k2, .slice a2 n2 c2, .int .i64 lb, .slice a3 n3 c3] 35)) := (Below.refl _ _).alloc (Nat.le_refl _) _
  have HV := hid (implCastValid t _ _ _ (hF.below hb0) (hat0.below hb0))
  have HT := hid (show ccO t = if vldC t then ccN t else 0 from rfl)
  have HSH := hid (show vldC t = true → shpC 40 t = true from fun h => by unfold vldC at h; simp only [Bool.and_eq_true] at h; exact h.1)
  generalize ccO t = L at *
  generalize vldC t = r at *
  go_enter Tryd.func13, Tryd.ntmps13
  go_wp2_with fail
  refine HV.out.mono ?_
  rintro e w1 ⟨rfl, hb1⟩
  obtain ⟨z0, z1, z2, z3, z4, z5, z6, z7, z8⟩ := box9 hb1
  have b1 := below_trans hb0 hb1
  have hat2 := hat0.below b1
  have hal : Below w1.heap.size w1 (w1.alloc (Obj.cells #[.int .i64 0] 3)) := (Below.refl _ _).alloc (Nat.le_refl _) _
  cases r
  · go_wp2_with fail
    go_ret
    exact ⟨ret_i (by rw [HT.out]; rfl), b1⟩
  · have HSHP := hid (HSH.out rfl)
    replace z0 := cell_keep z0 hal
    replace z1 := cell_keep z1 hal
    replace z2 := cell_keep z2 hal
    replace z3 := cell_keep z3 hal
    replace z4 := cell_keep z4 hal
    replace z5 := cell_keep z5 hal
    replace z6 := cell_keep z6 hal
    replace z7 := cell_keep z7 hal
    replace z8 := cell_keep z8 hal
    have hs1 : (w1.alloc (Obj.cells #[.int .i64 0] 3)).heap.size = w1.heap.size + 1 := by simp
    have HL := hid (show CcAt w1.heap.size (w1.heap.size + 1) 0 (.int .u32 0) (w1.alloc (Obj.cells #[.int .i64 0] 3)) from ⟨alloc_new _ _, rfl, Nat.lt_succ_self _⟩)
    have HAT := hid (hat2.below hal)
    have HLT1 := hid (show ∀ x ∈ fp, x < w1.heap.size from fun x hx => Nat.lt_of_lt_of_le (HLT.out x hx) b1.size)
    have HS2 := hid (show id 0 + 2 * (t.sz + 1) ≤ 4194300 by simp only [id]; omega)
    have HB1 := hid b1
    have HAL := hid hal
    clear hat2 b1 hat hat0
    go_wp2_with fail
    refine (eachCast_any 52 #[.pointer (some ⟨w1.heap.size, 0, none⟩)] w1.heap.size (w1.heap.size + 1) (CcAt w1.heap.size (w1.heap.size + 1)) id ccStep callOk_cc (Nat.lt_succ_self _) ccStep_len
      (fun a v w w' h hb => h.below hb) (fun a v w h b e => by rw [h.2.1] at e; cases e) (visitCc w1.heap.size (w1.heap.size + 1))
      t 0 (.int .u32 0) _ fp 40 _ HL.out HAT.out HLT1.out HSHP.out (Nat.le_of_eq hs1.symm) hsz HS2.out).mono ?_
    rintro e w3 ⟨⟨r3, rfl⟩, v3, ⟨hO3, rfl, hMB⟩, hr3⟩
    have hc3 : w3.cell? ⟨w1.heap.size, 0, none⟩ = some (.int .i64 ((ecN ccStep 0 t : Nat) : Int)) := by rw [cell_of_block hO3]; rfl
    have HB3 := hid (hr3.below hMB (Nat.le_of_eq hs1.symm) (fun b hb => by cases hb))
    have hl3 := lt_of_block hO3
    have HFIN := hid (show Below w.heap.size w w3 from HB1.out.trans ((HAL.out.trans (HB3.out.mono (by omega))).mono HB1.out.size))
    clear hO3 hr3 z0 z1 z2 z3 z4 z5 z6 z7 z8
    go_wp2_with fail
    go_ret
    exact ⟨ret_i (by rw [HT.out]; rfl), HFIN.out⟩
end Go.Proofs.YtffmpjcjmffdeaaDoor

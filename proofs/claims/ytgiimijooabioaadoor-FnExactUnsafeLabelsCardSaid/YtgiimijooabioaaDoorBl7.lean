/- The program's SafeFor. -/
import Derived.Test.YtgiimijooabioaaDoorBl6
import Derived.Test.YtgiimijooabioaaDoorEcJ
namespace Go.Proofs.YtgiimijooabioaaDoor
open Go.RowKit

theorem callOk_sf : CallOkT 55 := fun _ _ => by kernel_rfl

/-- The variable of block M holds what has been found so far, that of block ML the label. -/
def SfAt (M ML B : Nat) (l : Int) (a : Bool) (v : Value) (w : World) : Prop := w.heap[M]? = some (.cells #[.bool a] 4 (0, 0)) ∧ w.heap[ML]? = some (.cells #[.int .i64 l] 3 (0, 0)) ∧ v = .int .i64 0 ∧ M < B ∧ ML < M

theorem sf_close {w w2 : World} {M ML B : Nat} {l : Int} {x y : Bool} (hO : w2.heap[M]? = some (.cells #[.bool x] 4 (0, 0))) (hL : w2.heap[ML]? = some (.cells #[.int .i64 l] 3 (0, 0))) (hb : Below w.heap.size w w2) (hMB : M < B) (hML : ML < M) :
    SfAt M ML B l y (.int .i64 0) (w2.setCell ⟨M, 0, none⟩ (.bool y)) ∧ Lr M w (w2.setCell ⟨M, 0, none⟩ (.bool y)) (.int .i64 0) (.int .i64 0) := by
  refine ⟨⟨heap_setCell_at hO _, (Below.heap_setCell _ _ _ _ (by show ML ≠ M; omega)).trans hL, rfl, hMB, hML⟩, ⟨⟨hb.os, hb.tape, hb.output, by rw [size_setCell]; exact hb.size⟩, fun k hk hkM _ => ?_, .inl rfl⟩⟩
  rw [Below.heap_setCell _ _ _ _ hkM, hb.block k hk]

set_option maxRecDepth 100000 in
set_option maxHeartbeats 4000000 in
theorem visitSf (M ML B : Nat) (l : Int) : VisC 55 #[.pointer (some ⟨M, 0, none⟩), .pointer (some ⟨ML, 0, none⟩)] M B (SfAt M ML B l) (fun _ => 0) (sfStep l) := by
  intro a v nm num ty fr lb ts k1 n1 a1 c1 k2 n2 a2 c2 a3 c3 fp w hS hat hown hfp hBw _
  obtain ⟨hO, hL, rfl, hMB, hML⟩ := hS
  obtain ⟨hlb, hty, hfr⟩ := own4_prt8 hown
  obtain ⟨hl0, hl1, hl2⟩ := isLb_rng8 hlb
  obtain ⟨k1', n1', a1', c1', k2', n2', a2', c2', a3', c3', f1, f2, f3, e, hnm, ht1, ht2, rfl, hs⟩ := hat.parts
  simp only [Value.agg.injEq, Array.mk.injEq, List.cons.injEq, Value.int.injEq, Value.slice.injEq, and_true, true_and] at e
  obtain ⟨rfl, ⟨rfl, rfl, rfl⟩, rfl, ⟨rfl, rfl, rfl⟩, rfl, rfl⟩ := e
  have hb0 : Below w.heap.size w (w.alloc (Obj.cells #[.int .i64 14, .string nm, .int .i64 num, .int .i64 k1, .slice a1 n1 c1, .int .i64 k2, .slice a2 n2 c2, .int .i64 lb, .slice a3 ts.length c3] 35)) := (Below.refl _ _).alloc (Nat.le_refl _) _
  have HB0 := hid hb0
  have hMlt : M < w.heap.size := by omega
  have hLlt : ML < w.heap.size := by omega
  have HO0 := hid hO
  have HL0 := hid hL
  have HO1 := hid (blk hO hb0)
  have HL1 := hid (blk hL hb0)
  have HQ := hid (canBlame_any 14 nm num ty fr lb l ts.length k1 k2 n1 c1 n2 c2 c3 a1 a2 a3 f1 f2 (w.alloc (Obj.cells #[.int .i64 14, .string nm, .int .i64 num, .int .i64 k1, .slice a1 n1 c1, .int .i64 k2, .slice a2 n2 c2, .int .i64 lb, .slice a3 ts.length c3] 35)) hty hfr hl1 hl2 (ht1.below hb0) (ht2.below hb0))
  obtain ⟨x0, x1, x2, x3, x4, x5, x6, x7, x8⟩ := box9 (Below.refl ((w.alloc (Obj.cells #[.int .i64 14, .string nm, .int .i64 num, .int .i64 k1, .slice a1 n1 c1, .int .i64 k2, .slice a2 n2 c2, .int .i64 lb, .slice a3 ts.length c3] 35))).heap.size (w.alloc (Obj.cells #[.int .i64 14, .string nm, .int .i64 num, .int .i64 k1, .slice a1 n1 c1, .int .i64 k2, .slice a2 n2 c2, .int .i64 lb, .slice a3 ts.length c3] 35)))
  have yM : ((w.alloc (Obj.cells #[.int .i64 14, .string nm, .int .i64 num, .int .i64 k1, .slice a1 n1 c1, .int .i64 k2, .slice a2 n2 c2, .int .i64 lb, .slice a3 ts.length c3] 35))).cell? ⟨M, 0, none⟩ = some (.bool a) := by rw [cell_of_block HO1.out]; rfl
  have yL : ((w.alloc (Obj.cells #[.int .i64 14, .string nm, .int .i64 num, .int .i64 k1, .slice a1 n1 c1, .int .i64 k2, .slice a2 n2 c2, .int .i64 lb, .slice a3 ts.length c3] 35))).cell? ⟨ML, 0, none⟩ = some (.int .i64 l) := by rw [cell_of_block HL1.out]; rfl
  have zf := fun o => frozen_of_block (o := o) HO1.out
  have HST := hid (show sfStep l a (.mk 14 nm num ty fr lb ts) = (a && !canB fr ty lb l) from rfl)
  rw [HST.out]
  generalize canB fr ty lb l = r at *
  clear hat hown hfp hlb hty hfr ht1 ht2 hs hnm hO hL hb0 HST hl0 hl1 hl2
  cases a
  · have HF := hid (sf_close (y := false) HO0.out HL0.out (Below.refl w.heap.size w) hMB hML)
    have HF2 := hid (fun (o : Obj) => (Below.refl (w.setCell ⟨M, 0, none⟩ (.bool false)).heap.size (w.setCell ⟨M, 0, none⟩ (.bool false))).alloc (Nat.le_refl _) o)
    go_enter Tryd.func55, Tryd.ntmps55
    go_wp2_with fail
    first | go_ret | go_end0
    exact ⟨⟨_, rfl⟩, _, ⟨blk HF.out.1.1 (HF2.out _), blk HF.out.1.2.1 (HF2.out _), HF.out.1.2.2⟩, HF.out.2.trans (Lr.of_below (HF2.out _) _)⟩
  · go_enter Tryd.func55, Tryd.ntmps55
    go_wp2_with fail
    refine HQ.out.mono ?_
    rintro e w1 ⟨rfl, hb1⟩
    have hO2 := blk HO1.out hb1
    have hL2 := blk HL1.out hb1
    have zM := (cell_of_block (o := 0) hO2).trans (show _ = some (.bool true) from rfl)
    have zf2 := fun o => frozen_of_block (o := o) hO2
    have HF := hid (sf_close (y := !r) hO2 hL2 (below_trans HB0.out hb1) hMB hML)
    clear hO2 hL2 x0 x1 x2 x3 x4 x5 x6 x7 x8 yM yL zf
    go_wp2_with fail
    first | go_ret | go_end0
    exact ⟨⟨_, rfl⟩, _, by first | exact HF.out.1 | simpa using HF.out.1, HF.out.2⟩

theorem two8 {w wr : World} {o1 o2 : Obj} (h : Below ((w.alloc o1).alloc o2).heap.size ((w.alloc o1).alloc o2) wr) : wr.heap[w.heap.size]? = some o1 ∧ wr.heap[w.heap.size + 1]? = some o2 := by
  have h1 : (w.alloc o1).heap.size = w.heap.size + 1 := by simp
  refine ⟨(h.block _ (by simp; omega)).trans ((Below.heap_alloc _ _ _ (by simp)).trans (alloc_new _ _)), (h.block _ (by simp)).trans ?_⟩
  rw [← h1]
  exact alloc_new _ _

theorem nine8 {w : World} {M : Nat} {T : TypeId} {fz : Nat × Nat} {v0 v1 v2 v3 v4 v5 v6 v7 v8 : Value} (h : w.heap[M]? = some (.cells #[v0, v1, v2, v3, v4, v5, v6, v7, v8] T fz)) : w.cell? ⟨M, 0, none⟩ = some v0 ∧ w.cell? ⟨M, 1, none⟩ = some v1 ∧ w.cell? ⟨M, 2, none⟩ = some v2 ∧ w.cell? ⟨M, 3, none⟩ = some v3 ∧ w.cell? ⟨M, 4, none⟩ = some v4 ∧ w.cell? ⟨M, 5, none⟩ = some v5 ∧ w.cell? ⟨M, 6, none⟩ = some v6 ∧ w.cell? ⟨M, 7, none⟩ = some v7 ∧ w.cell? ⟨M, 8, none⟩ = some v8 := by
  refine ⟨?_, ?_, ?_, ?_, ?_, ?_, ?_, ?_, ?_⟩ <;> (rw [cell_of_block h]; rfl)

set_option maxRecDepth 100000 in
set_option maxHeartbeats 4000000 in
theorem implSafeFor (l : Int) (t : Tm) (v : Value) (fp : List Nat) (w : World) (hsz : t.sz ≤ 1048576) (hF : Forms w) (hat : t.At w v fp) :
    Calls Tryd.prog 15 #[v, .int .i64 l] w fun e w' => e = .returned (.bool (safOf l t)) ∧ Below w.heap.size w w' := by
  have hlt := hat.lt
  have HLT := hid hlt
  clear hlt
  have hat0 := hat
  obtain ⟨k, nm, num, k1, n1, a1, c1, k2, n2, a2, c2, lb, n3, a3, c3, rfl⟩ := hat.agg
  have hb0 : Below w.heap.size w ((w.alloc (Obj.cells #[.int .i64 k, .string nm, .int .i64 num, .int .i64 k1, .slice a1 n1 c1, .int .i64 k2, .slice a2 n2 c2, .int .i64 lb, .slice a3 n3 c3] 35)).alloc (Obj.cells #[.int .i64 l] 3)) := ((Below.refl _ _).alloc (Nat.le_refl _) _).alloc (by simp) _
  have HV := hid (implCastValid t _ _ _ (hF.below hb0) (hat0.below hb0))
  have HT := hid (show safOf l t = (vldC t && isLb l && safN l t) from rfl)
  have HLB := hid (fun w => isLabel_any l w)
  have HSH := hid (fun h => vldC_shp (t := t) h)
  obtain ⟨hE0, hE1⟩ := two8 (Below.refl (((w.alloc (Obj.cells #[.int .i64 k, .string nm, .int .i64 num, .int .i64 k1, .slice a1 n1 c1, .int .i64 k2, .slice a2 n2 c2, .int .i64 lb, .slice a3 n3 c3] 35)).alloc (Obj.cells #[.int .i64 l] 3))).heap.size ((w.alloc (Obj.cells #[.int .i64 k, .string nm, .int .i64 num, .int .i64 k1, .slice a1 n1 c1, .int .i64 k2, .slice a2 n2 c2, .int .i64 lb, .slice a3 n3 c3] 35)).alloc (Obj.cells #[.int .i64 l] 3)))
  obtain ⟨x0, x1, x2, x3, x4, x5, x6, x7, x8⟩ := nine8 hE0
  have y0 : (((w.alloc (Obj.cells #[.int .i64 k, .string nm, .int .i64 num, .int .i64 k1, .slice a1 n1 c1, .int .i64 k2, .slice a2 n2 c2, .int .i64 lb, .slice a3 n3 c3] 35)).alloc (Obj.cells #[.int .i64 l] 3))).cell? ⟨w.heap.size + 1, 0, none⟩ = some (.int .i64 l) := by rw [cell_of_block hE1]; rfl
  clear hE0 hE1
  generalize safOf l t = L at *
  generalize vldC t = r at *
  generalize isLb l = cl at *
  go_enter Tryd.func15, Tryd.ntmps15
  go_wp2_with fail
  refine HV.out.mono ?_
  rintro e w1 ⟨rfl, hb1⟩
  obtain ⟨hE0, hE1⟩ := two8 hb1
  obtain ⟨z0, z1, z2, z3, z4, z5, z6, z7, z8⟩ := nine8 hE0
  have u0 : w1.cell? ⟨w.heap.size + 1, 0, none⟩ = some (.int .i64 l) := by rw [cell_of_block hE1]; rfl
  have HE1 := hid hE1
  have b1 := below_trans hb0 hb1
  have hat2 := hat.below b1
  have hMlt := lt_of_block hE1
  clear x0 x1 x2 x3 x4 x5 x6 x7 x8 y0 hE0 hE1
  cases r
  · have HFIN := hid (show L = false ∧ Below w.heap.size w w1 from ⟨by rw [HT.out]; rfl, b1⟩)
    go_wp2_with fail
    go_ret
    exact ⟨ret_b HFIN.out.1.symm, HFIN.out.2⟩
  · have HSHP := hid (HSH.out (by simp))
    have HB1 := hid b1
    clear b1
    go_wp2_with fail
    refine (HLB.out _).mono ?_
    rintro e w2 ⟨rfl, rfl⟩
    cases cl
    · have HFIN := hid (show L = false from by rw [HT.out]; rfl)
      go_wp2_with fail
      go_ret
      exact ⟨ret_b HFIN.out.symm, HB1.out⟩
    · have hal : Below w2.heap.size w2 (w2.alloc (Obj.cells #[.bool true] 4)) := (Below.refl _ _).alloc (Nat.le_refl _) _
      replace z0 := cell_keep z0 hal
      replace z1 := cell_keep z1 hal
      replace z2 := cell_keep z2 hal
      replace z3 := cell_keep z3 hal
      replace z4 := cell_keep z4 hal
      replace z5 := cell_keep z5 hal
      replace z6 := cell_keep z6 hal
      replace z7 := cell_keep z7 hal
      replace z8 := cell_keep z8 hal
      replace u0 := cell_keep u0 hal
      have hs1 : (w2.alloc (Obj.cells #[.bool true] 4)).heap.size = w2.heap.size + 1 := by simp
      have HL := hid (show SfAt w2.heap.size (w.heap.size + 1) (w2.heap.size + 1) l true (.int .i64 0) (w2.alloc (Obj.cells #[.bool true] 4)) from ⟨alloc_new _ _, blk HE1.out hal, rfl, Nat.lt_succ_self _, hMlt⟩)
      have HAT := hid (hat2.below hal)
      have HLT1 := hid (show ∀ x ∈ fp, x < w2.heap.size from fun x hx => Nat.lt_of_lt_of_le (HLT.out x hx) HB1.out.size)
      have HAL := hid hal
      clear hat2 hal
      go_wp2_with fail
      refine (eachCast_any 55 #[.pointer (some ⟨w2.heap.size, 0, none⟩), .pointer (some ⟨w.heap.size + 1, 0, none⟩)] w2.heap.size (w2.heap.size + 1) (SfAt w2.heap.size (w.heap.size + 1) (w2.heap.size + 1) l) (fun _ => 0) (sfStep l) callOk_sf (Nat.lt_succ_self _) (fun _ _ => by omega)
        (fun a v w w' h hb => ⟨blk h.1 hb, blk h.2.1 hb, h.2.2⟩) (fun a v w h b hb => by rw [h.2.2.1] at hb; cases hb) (visitSf w2.heap.size (w.heap.size + 1) (w2.heap.size + 1) l)
        t true (.int .i64 0) _ fp 40 _ HL.out HAT.out HLT1.out HSHP.out (Nat.le_of_eq hs1.symm) hsz (by show 0 + 2 * (t.sz + 1) ≤ 4194300; omega)).mono ?_
      rintro e w3 ⟨⟨r3, rfl⟩, v3, ⟨hO3, -, rfl, hMB, -⟩, hr3⟩
      rw [ecN_sf l t true, Bool.true_and] at hO3
      have hc3 : w3.cell? ⟨w2.heap.size, 0, none⟩ = some (.bool (safN l t)) := by rw [cell_of_block hO3]; rfl
      have HFIN := hid (show L = safN l t ∧ Below w.heap.size w w3 from ⟨by rw [HT.out]; rfl, below_trans HB1.out ((HAL.out.mono (Nat.le_refl _)).trans ((hr3.below hMB (Nat.le_of_eq hs1.symm) (fun b hb => by cases hb)).mono (Nat.le_refl _)))⟩)
      generalize safN l t = R at *
      clear hO3 hr3 z0 z1 z2 z3 z4 z5 z6 z7 z8 u0
      go_wp2_with fail
      go_ret
      exact ⟨ret_b HFIN.out.1.symm, HFIN.out.2⟩
end Go.Proofs.YtgiimijooabioaaDoor

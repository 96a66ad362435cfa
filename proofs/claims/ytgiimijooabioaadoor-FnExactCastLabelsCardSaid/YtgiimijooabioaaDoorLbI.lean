/- The program's CastLabels: the visit of one cast. -/
import Derived.Test.YtgiimijooabioaaDoorLbA
namespace Go.Proofs.YtgiimijooabioaaDoor
open Go.RowKit

theorem callOk_lb : CallOkT 63 := fun _ _ => by kernel_rfl

/-- The variable of block M holds a slice of the call's own that reads as the numbers ds. -/
def LabAt (M B : Nat) (ds : List Int) (v : Value) (w : World) : Prop := w.heap[M]? = some (.cells #[v] 39 (0, 0)) ∧ GrowI B ds v w ∧ M < B

theorem LabAt.below {M B : Nat} {ds : List Int} {v : Value} {w w' : World} (h : LabAt M B ds v w) (hb : Below w.heap.size w w') : LabAt M B ds v w' := ⟨blk h.1 hb, h.2.1.below hb, h.2.2⟩

theorem GrowI.setCell {B : Nat} {ds : List Int} {v : Value} {w : World} (h : GrowI B ds v w) {p : Addr} (hp : p.block < B) (u : Value) : GrowI B ds v (w.setCell p u) := ownsRow_setCell_below h hp u

theorem lab_close {w w0 w1 w3 : World} {M B g n cp : Nat} {ds : List Int} {x : Int} {v vold : Value} {o : Obj} (hO : w0.heap[M]? = some (.cells #[vold] 39 (0, 0))) (hG : GrowI B ds v w0) (hb0 : Below w.heap.size w w0) (hw1 : w1 = w0.alloc o) (hg : w1.grownBy w3 v.ownBlock)
    (hown : w3.ownsRow B 3 1 (.slice (some ⟨g, 0, none⟩) n cp) n (ds.map (Value.int .i64) ++ [.int .i64 x])) (hn : n = ds.length + 1) (hat : v.ownBlock = some g ∨ g = w1.heap.size) (hMB : M < B) (_hB : B ≤ w0.heap.size) :
    LabAt M B (ds ++ [x]) (.slice (some ⟨g, 0, none⟩) n cp) (w3.setCell ⟨M, 0, none⟩ (.slice (some ⟨g, 0, none⟩) n cp)) ∧ Lr M w (w3.setCell ⟨M, 0, none⟩ (.slice (some ⟨g, 0, none⟩) n cp)) v (.slice (some ⟨g, 0, none⟩) n cp) := by
  have hb1 : Below w0.heap.size w0 w1 := by rw [hw1]; exact (Below.refl _ _).alloc (Nat.le_refl _) _
  have hMo : some M ≠ v.ownBlock := fun e => by have := (hG.own_ge M e.symm).1; omega
  have hM1 := blk hO hb1
  have hM3 := (hg.block M (lt_of_block hM1) hMo).trans hM1
  have s0 := hb0.size
  have s1 := hb1.size
  have s2 := hg.size
  refine ⟨⟨heap_setCell_at hM3 _, (GrowI.snoc hown hn).setCell (p := ⟨M, 0, none⟩) hMB _, hMB⟩, ⟨⟨?_, ?_, ?_, ?_⟩, fun k hk hkM hne => ?_, ?_⟩⟩
  · exact hg.os.trans (hb1.os.trans hb0.os)
  · exact hg.tape.trans (hb1.tape.trans hb0.tape)
  · exact hg.output.trans (hb1.output.trans hb0.output)
  · rw [size_setCell]
    omega
  · rw [Below.heap_setCell _ _ _ _ hkM, hg.block k (by omega) hne, hb1.block k (by omega), hb0.block k hk]
  · rcases hat with h | h
    · exact .inl h.symm
    · exact .inr ⟨g, rfl, by omega⟩

set_option maxRecDepth 100000 in
set_option maxHeartbeats 4000000 in
theorem visitLb (M B : Nat) : VisC 63 #[.pointer (some ⟨M, 0, none⟩)] M B (LabAt M B) List.length lbStep := by
  intro ds v nm num ty fr lb ts k1 n1 a1 c1 k2 n2 a2 c2 a3 c3 fp w hS hat hown4 hfp hBw hlen
  obtain ⟨hO, hG, hMB⟩ := hS
  obtain ⟨av, capv, rfl⟩ := hG.shape
  obtain ⟨i0, hi0, hz0, hz1, hz2⟩ := info_parts (P := Tryd.prog) (e := 3) Tryd.infoInt
  have hb0 : Below w.heap.size w (w.alloc (Obj.cells #[.int .i64 14, .string nm, .int .i64 num, .int .i64 k1, .slice a1 n1 c1, .int .i64 k2, .slice a2 n2 c2, .int .i64 lb, .slice a3 ts.length c3] 35)) := (Below.refl _ _).alloc (Nat.le_refl _) _
  have hs0 : ((w.alloc (Obj.cells #[.int .i64 14, .string nm, .int .i64 num, .int .i64 k1, .slice a1 n1 c1, .int .i64 k2, .slice a2 n2 c2, .int .i64 lb, .slice a3 ts.length c3] 35))).heap.size = w.heap.size + 1 := by simp
  have HGW := hid (hG.below hb0)
  have HO1 := hid (blk hO hb0)
  have HOWN := hid HGW.out.own_ge
  have HBW := hid (Nat.le_trans hBw hb0.size)
  have hMlt : M < w.heap.size := by omega
  obtain ⟨x0, x1, x2, x3, x4, x5, x6, x7, x8⟩ := box9 (Below.refl ((w.alloc (Obj.cells #[.int .i64 14, .string nm, .int .i64 num, .int .i64 k1, .slice a1 n1 c1, .int .i64 k2, .slice a2 n2 c2, .int .i64 lb, .slice a3 ts.length c3] 35))).heap.size (w.alloc (Obj.cells #[.int .i64 14, .string nm, .int .i64 num, .int .i64 k1, .slice a1 n1 c1, .int .i64 k2, .slice a2 n2 c2, .int .i64 lb, .slice a3 ts.length c3] 35)))
  have yM : ((w.alloc (Obj.cells #[.int .i64 14, .string nm, .int .i64 num, .int .i64 k1, .slice a1 n1 c1, .int .i64 k2, .slice a2 n2 c2, .int .i64 lb, .slice a3 ts.length c3] 35))).cell? ⟨M, 0, none⟩ = some (.slice av ds.length capv) := by rw [cell_of_block HO1.out]; rfl
  have hal0 : Below ((w.alloc (Obj.cells #[.int .i64 14, .string nm, .int .i64 num, .int .i64 k1, .slice a1 n1 c1, .int .i64 k2, .slice a2 n2 c2, .int .i64 lb, .slice a3 ts.length c3] 35))).heap.size (w.alloc (Obj.cells #[.int .i64 14, .string nm, .int .i64 num, .int .i64 k1, .slice a1 n1 c1, .int .i64 k2, .slice a2 n2 c2, .int .i64 lb, .slice a3 ts.length c3] 35)) (((w.alloc (Obj.cells #[.int .i64 14, .string nm, .int .i64 num, .int .i64 k1, .slice a1 n1 c1, .int .i64 k2, .slice a2 n2 c2, .int .i64 lb, .slice a3 ts.length c3] 35))).alloc (Obj.cells #[.int .i64 lb] 3)) := (Below.refl _ _).alloc (Nat.le_refl _) _
  have zM := cell_keep yM hal0
  have HNEW := hid (show (((w.alloc (Obj.cells #[.int .i64 14, .string nm, .int .i64 num, .int .i64 k1, .slice a1 n1 c1, .int .i64 k2, .slice a2 n2 c2, .int .i64 lb, .slice a3 ts.length c3] 35))).alloc (Obj.cells #[.int .i64 lb] 3)).heap[w.heap.size + 1]? = some (Obj.cells #[.int .i64 lb] 3) by have := alloc_new ((w.alloc (Obj.cells #[.int .i64 14, .string nm, .int .i64 num, .int .i64 k1, .slice a1 n1 c1, .int .i64 k2, .slice a2 n2 c2, .int .i64 lb, .slice a3 ts.length c3] 35))) (Obj.cells #[.int .i64 lb] 3); simpa using this)
  clear hat hO hG hown4 hfp
  go_enter Tryd.func63, Tryd.ntmps63
  go_wp2_with (refine wpList_append_lies _ rfl (.tmp 3) (.tmp 6) 39 rfl B 3 i0 _ 1 8 Tryd.underInts hi0 hz0 hz1 hz2 rfl (by omega) (.slice av ds.length capv) ds.length (ds.map (Value.int .i64)) rfl (World.ownsRow.alloc HGW.out _) ⟨w.heap.size + 1, 0, none⟩ 1 1 [.int .i64 lb] rfl rfl (World.news_of_block (cs := #[.int .i64 lb]) (t := 3) (fr := (0, 0)) HNEW.out) (by simp [Value.oneCell']) (by omega) (by unfold maxLen; omega) (by omega) (by simp; omega) (w.heap.size + 1 + 1) (by simp) ?_; intro g3 cp w3 hown3 hgrow hat3 hlt3; have mF := m_frozen hgrow HOWN.out hMB (blk HO1.out hal0); have m0 := m_cell hgrow HOWN.out hMB zM; clear yM zM)
  have HF := hid (lab_close (w := w) HO1.out HGW.out hb0 rfl hgrow hown3 rfl (by simpa using hat3) hMB HBW.out)
  clear hown3 hgrow hat3 hlt3 m0 mF
  first | go_ret | go_end0 | (go_wp2_with fail; first | go_ret | go_end0)
  obtain ⟨q1, q2⟩ := HF.out
  exact ⟨⟨_, rfl⟩, _, q1, q2⟩
end Go.Proofs.YtgiimijooabioaaDoor

/- The program's copyType at the zero type too; copyNode. -/
import Derived.Test.YtffmpjcjmffdeaaDoorCpT
import Derived.Test.YtffmpjcjmffdeaaDoorNdW
import Derived.Test.YtffmpjcjmffdeaaDoorPkB
namespace Go.Proofs.YtffmpjcjmffdeaaDoor
open Go.RowKit

set_option maxRecDepth 100000 in
set_option maxHeartbeats 800000 in
theorem copyType_zero (v : Value) (fp : List Nat) (w : World) (h : (Ty.mk 0 []).At w v fp) : Calls Tryd.prog 63 #[v] w (MadeT w (.mk 0 [])) := by
  obtain ⟨k, m, a, cap, rfl⟩ := h.agg
  have hB := (((Below.refl w.heap.size w).alloc (Nat.le_refl _) (Obj.cells #[.int .i64 k, .slice a m cap] 32)).alloc (by simp) (Obj.cells #[.int .i64 0, .slice none 0 0] 32))
  have HT := hid (show wkT unkT (.mk 0 []) (.mk 0 []) = .mk 0 [] by simp [wkT, wkTL])
  go_enter Tryd.func63, Tryd.ntmps63
  go_wp2_with fail
  refine (walkT_same 119 unkT 0 [] [] (by decide) rfl (Nat.zero_le _) (by simp) (by simp) (by simp) _ _ _ _ _ (h.below hB) (h.below hB)).mono ?_
  rw [HT.out]
  rintro e w1 ⟨v, f, rfl, hat, hf, hb⟩
  obtain ⟨kr, nr, ar, capr, rfl⟩ := hat.agg
  obtain ⟨x0, x1, r0, r1, rz⟩ := boxes2 hb
  have hM : w.heap.size + 1 < w1.heap.size := by have := hb.size; simp at this; omega
  have hbb := ((alloc2 hb).setCell (p := ⟨w.heap.size + 1, 0, none⟩) (by simp) (.int .i64 kr)).setCell (p := ⟨w.heap.size + 1, 1, none⟩) (by simp) (.slice ar nr capr)
  have hkr := keepR (R := w.heap.size + 1) (x := .int .i64 kr) (y := .slice ar nr capr) hat hf (by simp)
  go_wp2_with fail
  exact bodyPost_ret (v := .agg #[.int .i64 kr, .slice ar nr capr]) (by simp [results, Tryd.results63, go_sem, r0, r1]) rfl ⟨_, f, rfl, hkr.1, hkr.2.mono (by simp; omega), hbb⟩

theorem noTy_eq {t : Ty} (h : noTy t = true) : t = .mk 0 [] := by
  cases t with
  | mk k ts =>
    simp only [noTy, Bool.and_eq_true, beq_iff_eq] at h
    rw [h.1, List.length_eq_zero_iff.1 h.2]

/-- A type that a valid node may hold. -/
def okTy (t : Ty) : Prop := wf t ∨ noTy t = true

theorem copyType_ok (t : Ty) (v : Value) (fp : List Nat) (w : World) (h : t.At w v fp) (hw : okTy t) : Calls Tryd.prog 63 #[v] w (MadeT w t) := by
  rcases hw with hw | hw
  · exact copyType_any t v fp w h hw
  · rw [noTy_eq hw] at h ⊢
    exact copyType_zero v fp w h

/-- What a call says that hands back a node in memory of its own but for the operands, which are the argument's. -/
def MadeN (w : World) (k : Int) (nm : ByteArray) (num : Int) (ty fr : Ty) (lb : Int) (s : Value) (e : Ending) (w' : World) : Prop :=
  ∃ k1 n1 a1 c1 k2 n2 a2 c2 g1 g2, e = .returned (.tuple #[.agg #[.int .i64 k, .string nm, .int .i64 num, .int .i64 k1, .slice a1 n1 c1, .int .i64 k2, .slice a2 n2 c2, .int .i64 lb, s], .bool true]) ∧
    Ty.At w' ty (.agg #[.int .i64 k1, .slice a1 n1 c1]) g1 ∧ Ty.At w' fr (.agg #[.int .i64 k2, .slice a2 n2 c2]) g2 ∧ Fresh w.heap.size w' (g1 ++ g2) ∧ Below w.heap.size w w'

set_option maxRecDepth 100000 in
set_option maxHeartbeats 2000000 in
theorem copyNode_any (k : Int) (nm : ByteArray) (num : Int) (ty fr : Ty) (lb : Int) (a3 : Option Addr) (n3 c3 : Nat) (k1 k2 : Int) (n1 n2 c1 c2 : Nat) (a1 a2 : Option Addr) (f1 f2 : List Nat) (w : World)
    (ht1 : Ty.At w ty (.agg #[.int .i64 k1, .slice a1 n1 c1]) f1) (ht2 : Ty.At w fr (.agg #[.int .i64 k2, .slice a2 n2 c2]) f2) (h1 : okTy ty) (h2 : okTy fr) :
    Calls Tryd.prog 134 #[.agg #[.int .i64 k, .string nm, .int .i64 num, .int .i64 k1, .slice a1 n1 c1, .int .i64 k2, .slice a2 n2 c2, .int .i64 lb, .slice a3 n3 c3]] w (MadeN w k nm num ty fr lb (.slice a3 n3 c3)) := by
  have hb0 : Below w.heap.size w ((w.alloc (Obj.cells #[.int .i64 k, .string nm, .int .i64 num, .int .i64 k1, .slice a1 n1 c1, .int .i64 k2, .slice a2 n2 c2, .int .i64 lb, .slice a3 n3 c3] 35)).alloc
      (Obj.cells #[.int .i64 0, .string ByteArray.empty, .int .i64 0, .int .i64 0, .slice none 0 0, .int .i64 0, .slice none 0 0, .int .i64 0, .slice none 0 0] 35)) :=
    (((Below.refl _ _).alloc (Nat.le_refl _) _).alloc (by simp) _)
  go_enter Tryd.func134, Tryd.ntmps134
  go_wp2_with fail
  refine (copyType_ok ty _ _ _ (ht1.below hb0) h1).mono ?_
  rintro e w1 ⟨v1, g1, rfl, hv1, hg1, hb1⟩
  obtain ⟨j1, m1, p1, d1, rfl⟩ := hv1.agg
  obtain ⟨hB, hZ⟩ := two_out hb1
  obtain ⟨x0, x1, x2, x3, x4, x5, x6, x7, x8⟩ := cells9 hB
  have xz := fun o => frozen_of_block (o := o) hB
  have hs0 : ((w.alloc (Obj.cells #[.int .i64 k, .string nm, .int .i64 num, .int .i64 k1, .slice a1 n1 c1, .int .i64 k2, .slice a2 n2 c2, .int .i64 lb, .slice a3 n3 c3] 35)).alloc
      (Obj.cells #[.int .i64 0, .string ByteArray.empty, .int .i64 0, .int .i64 0, .slice none 0 0, .int .i64 0, .slice none 0 0, .int .i64 0, .slice none 0 0] 35)).heap.size = w.heap.size + 1 + 1 := by simp
  have b1 := below_trans hb0 hb1
  rw [hs0] at hg1
  have hM : w.heap.size + 1 < w1.heap.size := lt_of_block hZ
  clear hs0 hb1 hb0
  go_wp2_with fail
  have b2 := (b1.setCell (p := ⟨w.heap.size, 3, none⟩) (Nat.le_refl _) (.int .i64 j1)).setCell (p := ⟨w.heap.size, 4, none⟩) (Nat.le_refl _) (.slice p1 m1 d1)
  refine (copyType_ok fr _ _ _ (ht2.below b2) h2).mono ?_
  rintro e w2 ⟨v2, g2, rfl, hv2, hg2, hb2⟩
  obtain ⟨j2, m2, p2, d2, rfl⟩ := hv2.agg
  have ab1 := ((Above.refl (w.heap.size + 1 + 1) w1).setCell (p := ⟨w.heap.size, 3, none⟩) (by simp; omega) (.int .i64 j1)).setCell (p := ⟨w.heap.size, 4, none⟩) (by simp; omega) (.slice p1 m1 d1)
  have hv1' := (hv1.above ab1 hg1.ge).below hb2
  have F2 := Fresh.append (hg1.above ab1 (Nat.le_refl _)) hg2 (Nat.le_refl _) (by rw [size_setCell, size_setCell]; omega) hb2
  have hB2 : w2.heap[w.heap.size]? = some (.cells #[.int .i64 k, .string nm, .int .i64 num, .int .i64 j1, .slice p1 m1 d1, .int .i64 k2, .slice a2 n2 c2, .int .i64 lb, .slice a3 n3 c3] 35 (0, 0)) :=
    blk (heap_setCell_at (heap_setCell_at hB _) _) hb2
  have hZ2 := blk (blk_ne (a := ⟨w.heap.size, 4, none⟩) (u := .slice p1 m1 d1) (blk_ne (a := ⟨w.heap.size, 3, none⟩) (u := .int .i64 j1) hZ (by simp)) (by simp)) hb2
  have b3 := below_trans b2 hb2
  clear x0 x1 x2 x3 x4 x5 x6 x7 x8 xz hB hZ hv1 hg1 hg2 b1 b2 hb2 ab1
  obtain ⟨x0, x1, x2, x3, x4, x5, x6, x7, x8⟩ := cells9 hB2
  obtain ⟨y0, y1, y2, y3, y4, y5, y6, y7, y8⟩ := cells9 hZ2
  have xz := fun o => frozen_of_block (o := o) hB2
  have yz := fun o => frozen_of_block (o := o) hZ2
  have ab3 := Above.put (vs := [.int .i64 k, .string nm, .int .i64 num, .int .i64 j1, .slice p1 m1 d1, .int .i64 j2, .slice p2 m2 d2, .int .i64 lb, .slice a3 n3 c3]) (o := 0) (((Above.refl (w.heap.size + 1 + 1) w2).setCell (p := ⟨w.heap.size, 5, none⟩) (by simp; omega) (.int .i64 j2)).setCell (p := ⟨w.heap.size, 6, none⟩) (by simp; omega) (.slice p2 m2 d2)) (b := w.heap.size + 1) (by omega)
  have b6 := below_put (vs := [.int .i64 k, .string nm, .int .i64 num, .int .i64 j1, .slice p1 m1 d1, .int .i64 j2, .slice p2 m2 d2, .int .i64 lb, .slice a3 n3 c3]) (o := 0) ((b3.setCell (p := ⟨w.heap.size, 5, none⟩) (Nat.le_refl _) (.int .i64 j2)).setCell (p := ⟨w.heap.size, 6, none⟩) (Nat.le_refl _) (.slice p2 m2 d2)) (b := w.heap.size + 1) (by omega)
  have q1 := hv1'.above ab3 (fun b hb => F2.ge b (by simp [hb]))
  have q2 := hv2.above ab3 (fun b hb => F2.ge b (by simp [hb]))
  have F4 := (F2.above ab3 (Nat.le_refl _)).mono (B' := w.heap.size) (by omega)
  clear hv1' hv2 F2 ab3
  go_wp2_with fail
  exact bodyPost_ret (v := .tuple #[.agg #[.int .i64 k, .string nm, .int .i64 num, .int .i64 j1, .slice p1 m1 d1, .int .i64 j2, .slice p2 m2 d2, .int .i64 lb, .slice a3 n3 c3], .bool true]) (by simp [results, Tryd.results134, go_sem, y0, y1, y2, y3, y4, y5, y6, y7, y8]) rfl ⟨_, _, _, _, _, _, _, _, g1, g2, rfl, q1, q2, F4, b6⟩
end Go.Proofs.YtffmpjcjmffdeaaDoor

/- The specification's l2Copy. -/
import Derived.Test.YtjpmlmdbldcbjaaDoorQPkB
import Derived.Test.YtjpmlmdbldcbjaaDoorQPkA
namespace Go.Proofs.YtjpmlmdbldcbjaaDoor
open Go.RowKit

theorem GrowM.own_geS {B : Nat} {ds : List Tm} {v : Value} {fp : List Nat} {w : World} (h : GrowM B ds v fp w) : ∀ b, v.ownBlock = some b → B ≤ b ∧ b < w.heap.size := by
  obtain ⟨xs, ho, _⟩ := h
  exact ho.lt

theorem Ty.At.belowM {B : Nat} {w w' : World} {t : Ty} {v : Value} {fp : List Nat} (h : t.At w v fp) (hb : Below B w w') (hf : ∀ x ∈ fp, x < B) : t.At w' v fp :=
  h.congr fun b hm o => hb.cell (p := ⟨b, o, none⟩) (hf b hm)

theorem Fresh.belowM {A B : Nat} {w w' : World} {fp : List Nat} (h : Fresh A w fp) (hb : Below B w w') (hf : ∀ x ∈ fp, x < B) : Fresh A w' fp :=
  ⟨h.1, fun b hm => ⟨(h.2 b hm).1, Nat.lt_of_lt_of_le (h.2 b hm).2.1 hb.size, fun o => (hb.frozen (p := ⟨b, o, none⟩) (hf b hm)).trans ((h.2 b hm).2.2 o)⟩⟩

/-- The loop over the operands: what stands behind j rounds. -/
def ScI (w : World) (bv : Array Value) (M : Nat) (k : Int) (nm : ByteArray) (num lb : Int) (ty fr : Ty) (j1 j2 : Int) (m1 m2 d1 d2 : Nat) (p1 p2 : Option Addr) (g1 g2 : List Nat) (us : List Tm) (x8 : Value) (f : List Nat) (wr : World) : Prop :=
  (wr.heap[w.heap.size]? = some (.cells bv 34 (0, 0)) ∧ wr.heap[w.heap.size + 1]? = some (Obj.cells #[.int .i64 0, .string ByteArray.empty, .int .i64 0, .int .i64 0, .slice none 0 0, .int .i64 0, .slice none 0 0, .int .i64 0, .slice none 0 0] 34) ∧ wr.heap[w.heap.size + 1 + 1]? = some (.cells #[.int .i64 k, .string nm, .int .i64 num, .int .i64 j1, .slice p1 m1 d1, .int .i64 j2, .slice p2 m2 d2, .int .i64 lb, x8] 34 (0, 0)) ∧ GrowM M us x8 f wr ∧ M ≤ wr.heap.size ∧ Below w.heap.size w wr) ∧
    ty.At wr (.agg #[.int .i64 j1, .slice p1 m1 d1]) g1 ∧ fr.At wr (.agg #[.int .i64 j2, .slice p2 m2 d2]) g2 ∧ Fresh (w.heap.size + 1 + 1 + 1) wr (g1 ++ g2) ∧ (∀ b ∈ g1 ++ g2, b < M) ∧ w.heap.size + 1 + 1 < M

theorem ScI.step {w wr : World} {bv : Array Value} {M : Nat} {k : Int} {nm : ByteArray} {num lb : Int} {ty fr : Ty} {j1 j2 : Int} {m1 m2 d1 d2 : Nat} {p1 p2 : Option Addr} {g1 g2 : List Nat} {w1 w3 : World} {us : List Tm} {u : Tm} {x8 : Value} {f f' : List Nat} {vs xs : List Value} {g cp n : Nat} (h : ScI w bv M k nm num lb ty fr j1 j2 m1 m2 d1 d2 p1 p2 g1 g2 us x8 f wr)
    (hb : Below wr.heap.size wr w1) (hat : u.At w1 (.agg vs.toArray) f') (hf : Fresh wr.heap.size w1 f') (ha1 : AtXM w1 us xs f) (hf1 : Fresh M w1 f) (hn1 : ∀ b, x8.ownBlock = some b → b ∉ f)
    (hgrow : (w1.alloc (Obj.cells vs.toArray 34)).grownBy w3 x8.ownBlock) (hown3 : w3.ownsRow M 34 9 (.slice (some ⟨g, 0, none⟩) n cp) n (xs ++ vs)) (hn : n = us.length + 1) (hat3 : x8.ownBlock = some g ∨ g = (w1.alloc (Obj.cells vs.toArray 34)).heap.size) :
    ScI w bv M k nm num lb ty fr j1 j2 m1 m2 d1 d2 p1 p2 g1 g2 (us ++ [u]) (.slice (some ⟨g, 0, none⟩) n cp) (f ++ f') (w3.setCell ⟨w.heap.size + 1 + 1, 8, none⟩ (.slice (some ⟨g, 0, none⟩) n cp)) := by
  obtain ⟨⟨hB, hZ, hO, hG, hs, hx⟩, t1, t2, hg, hgM, hwM⟩ := h
  have hge := hG.own_geS
  have h9 : vs.length = 9 := by simpa using Tm.size9 hat
  have hG3 : GrowM M (us ++ [u]) (.slice (some ⟨g, 0, none⟩) n cp) (f ++ f') w3 := GrowM.step (w := wr) ha1 hf1 hn1 hG.block.1 hG.block.2 hs h9 hat hf ((Below.refl _ _).alloc (Nat.le_refl _) _) hgrow hown3 hn hat3
  have hs1 := hb.size
  have hw3 : Below M w1 w3 := ((Below.refl _ _).alloc (by omega) _).grown hgrow (by simp; omega) (fun b hb => (hge b hb).1)
  have hbb := (hb.mono (B' := M) (by omega)).trans hw3
  have hs3 := hbb.size
  have ab : Above (w.heap.size + 1 + 1 + 1) w3 (w3.setCell ⟨w.heap.size + 1 + 1, 8, none⟩ (.slice (some ⟨g, 0, none⟩) n cp)) := (Above.refl _ _).setCell (p := ⟨w.heap.size + 1 + 1, 8, none⟩) (Nat.lt_succ_self _) _
  refine ⟨⟨blk_ne ((hbb.block _ (by omega)).trans hB) (by simp; omega), blk_ne ((hbb.block _ (by omega)).trans hZ) (by simp), ?_, hG3.setCell (p := ⟨w.heap.size + 1 + 1, 8, none⟩) hwM _, by rw [size_setCell]; omega, (hx.trans (hbb.mono (by omega))).setCell (p := ⟨w.heap.size + 1 + 1, 8, none⟩) (by simp; omega) _⟩,
    (t1.belowM hbb (fun b hb => hgM b (by simp [hb]))).above ab (fun b hb => hg.ge b (by simp [hb])), (t2.belowM hbb (fun b hb => hgM b (by simp [hb]))).above ab (fun b hb => hg.ge b (by simp [hb])), (hg.belowM hbb hgM).above ab (Nat.le_refl _), hgM, hwM⟩
  rw [heap_setCell_at ((hbb.block _ (by omega)).trans hO)]
  rfl

theorem ScI.keep {w wr : World} {bv : Array Value} {M : Nat} {k : Int} {nm : ByteArray} {num lb : Int} {ty fr : Ty} {j1 j2 : Int} {m1 m2 d1 d2 : Nat} {p1 p2 : Option Addr} {g1 g2 : List Nat} {w1 w3 : World} {us : List Tm} {x8 : Value} {f : List Nat} {vs : List Value} (h : ScI w bv M k nm num lb ty fr j1 j2 m1 m2 d1 d2 p1 p2 g1 g2 us x8 f wr)
    (hb : Below wr.heap.size wr w1) (hgrow : (w1.alloc (Obj.cells vs.toArray 34)).grownBy w3 x8.ownBlock) : w3.heap[w.heap.size + 1 + 1]? = some (.cells #[.int .i64 k, .string nm, .int .i64 num, .int .i64 j1, .slice p1 m1 d1, .int .i64 j2, .slice p2 m2 d2, .int .i64 lb, x8] 34 (0, 0)) := by
  obtain ⟨⟨hB, hZ, hO, hG, hs, hx⟩, t1, t2, hg, hgM, hwM⟩ := h
  have hge := hG.own_geS
  have hs1 := hb.size
  have hw3 : Below M w1 w3 := ((Below.refl _ _).alloc (by omega) _).grown hgrow (by simp; omega) (fun b hb => (hge b hb).1)
  have hbb := (hb.mono (B' := M) (by omega)).trans hw3
  exact (hbb.block _ (by omega)).trans hO

theorem ScI.done {w wr : World} {bv : Array Value} {M : Nat} {k : Int} {nm : ByteArray} {num lb : Int} {ty fr : Ty} {j1 j2 : Int} {m1 m2 d1 d2 : Nat} {p1 p2 : Option Addr} {g1 g2 : List Nat} {us : List Tm} {x8 : Value} {f : List Nat} (h : ScI w bv M k nm num lb ty fr j1 j2 m1 m2 d1 d2 p1 p2 g1 g2 us x8 f wr) (hnm : nm.size ≤ 9223372036854775807) (hm : us.length ≤ maxLen) :
    MadeM w (.mk k nm num ty fr lb us) (.returned (.agg #[.int .i64 k, .string nm, .int .i64 num, .int .i64 j1, .slice p1 m1 d1, .int .i64 j2, .slice p2 m2 d2, .int .i64 lb, x8])) (put wr (w.heap.size + 1) 0 (#[.int .i64 k, .string nm, .int .i64 num, .int .i64 j1, .slice p1 m1 d1, .int .i64 j2, .slice p2 m2 d2, .int .i64 lb, x8]).toList) := by
  obtain ⟨⟨hB, hZ, hO, hG, hs, hx⟩, t1, t2, hg, hgM, hwM⟩ := h
  obtain ⟨fp, hsm, hf⟩ := hG.done hm
  have ab : Above (w.heap.size + 1 + 1) wr (put wr (w.heap.size + 1) 0 (#[.int .i64 k, .string nm, .int .i64 num, .int .i64 j1, .slice p1 m1 d1, .int .i64 j2, .slice p2 m2 d2, .int .i64 lb, x8]).toList) := (Above.refl _ _).put (Nat.lt_succ_self _)
  have q1 := t1.above ab (fun b hb => by have := hg.ge b (by simp [hb]); omega)
  have q2 := t2.above ab (fun b hb => by have := hg.ge b (by simp [hb]); omega)
  have q3 := hsm.above ab (fun b hb => by have := hf.ge b hb; omega)
  have F1 := (hg.above ab (by omega)).mono (B' := w.heap.size) (by omega)
  have F2 := (hf.above ab (by omega)).mono (B' := w.heap.size) (by omega)
  refine ⟨_, g1 ++ (g2 ++ fp), rfl, Tm.at_mk.2 ⟨_, _, _, _, _, g1, g2, fp, rfl, hnm, q1, q2, rfl, q3⟩, ?_, below_put hx (by omega)⟩
  rw [← List.append_assoc]
  refine ⟨List.nodup_append.2 ⟨F1.1, F2.1, fun a ha b hb e => ?_⟩, fun b hb => ?_⟩
  · have := hgM a ha
    have := hf.ge b hb
    omega
  · rcases List.mem_append.1 hb with hb | hb
    · exact F1.2 b hb
    · exact F2.2 b hb

def ScC (t : Tm) : Prop := ∀ (v : Value) (fp : List Nat) (w : World), t.At w v fp → t.sz ≤ 1048576 → Calls Tryd.prog 46 #[v] w (MadeM w t)

set_option maxRecDepth 100000 in
set_option maxHeartbeats 4000000 in
theorem l2Copy_of (k : Int) (nm : ByteArray) (num : Int) (ty fr : Ty) (lb : Int) (ts : List Tm) (ih : ∀ t ∈ ts, ScC t) : ScC (.mk k nm num ty fr lb ts) := by
  intro v fp w hat hsz
  have HIH := hid ih
  clear ih
  obtain ⟨k1, n1, a1, c1, k2, n2, a2, c2, a3, c3, f1, f2, f3, rfl, hnm, ht1, ht2, rfl, hs⟩ := hat.parts
  obtain ⟨a, cap, hss, hc, hm, hget⟩ := hs.open
  cases hss
  have HG := hid hget
  have HNM := hid hnm
  have hn1 : ty.cnt ≤ 1048576 := by simp only [Tm.sz] at hsz; omega
  have hn2 : fr.cnt ≤ 1048576 := by simp only [Tm.sz] at hsz; omega
  have HSL := hid (show szML ts + ts.length ≤ 1048576 by simp only [Tm.sz] at hsz; omega)
  have hb0 : Below w.heap.size w (((w.alloc (Obj.cells #[.int .i64 k, .string nm, .int .i64 num, .int .i64 k1, .slice a1 n1 c1, .int .i64 k2, .slice a2 n2 c2, .int .i64 lb, .slice a3 ts.length c3] 34)).alloc (Obj.cells #[.int .i64 0, .string ByteArray.empty, .int .i64 0, .int .i64 0, .slice none 0 0, .int .i64 0, .slice none 0 0, .int .i64 0, .slice none 0 0] 34)).alloc (Obj.cells #[.int .i64 k, .string nm, .int .i64 num, .int .i64 k1, .slice a1 n1 c1, .int .i64 k2, .slice a2 n2 c2, .int .i64 lb, .slice a3 ts.length c3] 34)) := (((Below.refl _ _).alloc (Nat.le_refl _) _).alloc (by simp) _).alloc (by simp; omega) _
  have hs0 : (((w.alloc (Obj.cells #[.int .i64 k, .string nm, .int .i64 num, .int .i64 k1, .slice a1 n1 c1, .int .i64 k2, .slice a2 n2 c2, .int .i64 lb, .slice a3 ts.length c3] 34)).alloc (Obj.cells #[.int .i64 0, .string ByteArray.empty, .int .i64 0, .int .i64 0, .slice none 0 0, .int .i64 0, .slice none 0 0, .int .i64 0, .slice none 0 0] 34)).alloc (Obj.cells #[.int .i64 k, .string nm, .int .i64 num, .int .i64 k1, .slice a1 n1 c1, .int .i64 k2, .slice a2 n2 c2, .int .i64 lb, .slice a3 ts.length c3] 34)).heap.size = w.heap.size + 1 + 1 + 1 := by simp
  have HC1 := hid (l1Copy_any ty _ _ _ (ht1.below hb0) hn1)
  have HC2 := hid (fun w' h => l1Copy_any fr _ _ w' (ht2.below h) hn2)
  obtain ⟨hB0, hZ0, hO0⟩ := three_out (Below.refl (((w.alloc (Obj.cells #[.int .i64 k, .string nm, .int .i64 num, .int .i64 k1, .slice a1 n1 c1, .int .i64 k2, .slice a2 n2 c2, .int .i64 lb, .slice a3 ts.length c3] 34)).alloc (Obj.cells #[.int .i64 0, .string ByteArray.empty, .int .i64 0, .int .i64 0, .slice none 0 0, .int .i64 0, .slice none 0 0, .int .i64 0, .slice none 0 0] 34)).alloc (Obj.cells #[.int .i64 k, .string nm, .int .i64 num, .int .i64 k1, .slice a1 n1 c1, .int .i64 k2, .slice a2 n2 c2, .int .i64 lb, .slice a3 ts.length c3] 34)).heap.size (((w.alloc (Obj.cells #[.int .i64 k, .string nm, .int .i64 num, .int .i64 k1, .slice a1 n1 c1, .int .i64 k2, .slice a2 n2 c2, .int .i64 lb, .slice a3 ts.length c3] 34)).alloc (Obj.cells #[.int .i64 0, .string ByteArray.empty, .int .i64 0, .int .i64 0, .slice none 0 0, .int .i64 0, .slice none 0 0, .int .i64 0, .slice none 0 0] 34)).alloc (Obj.cells #[.int .i64 k, .string nm, .int .i64 num, .int .i64 k1, .slice a1 n1 c1, .int .i64 k2, .slice a2 n2 c2, .int .i64 lb, .slice a3 ts.length c3] 34)))
  obtain ⟨x0, x1, x2, x3, x4, x5, x6, x7, x8⟩ := cells9 hB0
  obtain ⟨y0, y1, y2, y3, y4, y5, y6, y7, y8⟩ := cells9 hO0
  have yz := fun o => frozen_of_block (o := o) hO0
  have HB0 := hid hb0
  have HZ0 := hid hs0
  clear hat hs hget hnm hsz ht1 ht2 hn1 hn2 hb0 hs0 hB0 hZ0 hO0 yz y0 y1 y2 y3 y4 y5 y6 y7 y8
  go_enter Tryd.func46, Tryd.ntmps46
  go_wp2_with fail
  refine HC1.out.mono ?_
  rintro e w1 ⟨v1, g1, rfl, hv1, hg1, hb1⟩
  obtain ⟨j1, m1, p1, d1, rfl⟩ := hv1.agg
  obtain ⟨hB, hZ, hO⟩ := three_out hb1
  clear x0 x1 x2 x3 x4 x5 x6 x7 x8
  obtain ⟨x0, x1, x2, x3, x4, x5, x6, x7, x8⟩ := cells9 hB
  obtain ⟨y0, y1, y2, y3, y4, y5, y6, y7, y8⟩ := cells9 hO
  have yz := fun o => frozen_of_block (o := o) hO
  rw [HZ0.out] at hg1
  have b1 := below_trans HB0.out hb1
  have hM : w.heap.size + 1 + 1 < w1.heap.size := lt_of_block hO
  have b2 := (b1.setCell (p := ⟨w.heap.size + 1 + 1, 3, none⟩) (by simp; omega) (.int .i64 j1)).setCell (p := ⟨w.heap.size + 1 + 1, 4, none⟩) (by simp; omega) (.slice p1 m1 d1)
  have ab1 := ((Above.refl (w.heap.size + 1 + 1 + 1) w1).setCell (p := ⟨w.heap.size + 1 + 1, 3, none⟩) (Nat.lt_succ_self _) (.int .i64 j1)).setCell (p := ⟨w.heap.size + 1 + 1, 4, none⟩) (Nat.lt_succ_self _) (.slice p1 m1 d1)
  have HV1 := hid (hv1.above ab1 hg1.ge)
  have HF1 := hid (hg1.above ab1 (Nat.le_refl _))
  have HC2' := hid (HC2.out _ b2)
  have HBB := hid b2
  have HBK := hid hB
  have HZK := hid hZ
  have HOK := hid hO
  clear hb1 hB hZ hO b1 b2 ab1 hv1 hg1
  go_wp2_with fail
  refine HC2'.out.mono ?_
  rintro e w2 ⟨v2, g2, rfl, hv2, hg2, hb2⟩
  obtain ⟨j2, m2, p2, d2, rfl⟩ := hv2.agg
  have hv1 := HV1.out.below hb2
  have F2 := Fresh.append HF1.out hg2 (Nat.le_refl _) (by rw [size_setCell, size_setCell]; omega) hb2
  have hO2 := blk (heap_setCell_at (heap_setCell_at HOK.out _) _) hb2
  have hB2 := blk (blk_ne (a := ⟨w.heap.size + 1 + 1, 4, none⟩) (u := .slice p1 m1 d1) (blk_ne (a := ⟨w.heap.size + 1 + 1, 3, none⟩) (u := .int .i64 j1) HBK.out (by simp; omega)) (by simp; omega)) hb2
  have hZ2 := blk (blk_ne (a := ⟨w.heap.size + 1 + 1, 4, none⟩) (u := .slice p1 m1 d1) (blk_ne (a := ⟨w.heap.size + 1 + 1, 3, none⟩) (u := .int .i64 j1) HZK.out (by simp)) (by simp)) hb2
  have b3 := below_trans HBB.out hb2
  clear x0 x1 x2 x3 x4 x5 x6 x7 x8 y0 y1 y2 y3 y4 y5 y6 y7 y8 yz
  simp only [List.setIfInBounds_toArray, List.set_cons_succ, List.set_cons_zero] at hO2
  obtain ⟨x0, x1, x2, x3, x4, x5, x6, x7, x8⟩ := cells9 hB2
  obtain ⟨y0, y1, y2, y3, y4, y5, y6, y7, y8⟩ := cells9 hO2
  have yz := fun o => frozen_of_block (o := o) hO2
  have hM2 : w.heap.size + 1 + 1 < w2.heap.size := lt_of_block hO2
  have hs2 : w1.heap.size ≤ w2.heap.size := by have := hb2.size; rw [size_setCell, size_setCell] at this; exact this
  have ab2 := (((Above.refl (w.heap.size + 1 + 1 + 1) w2).setCell (p := ⟨w.heap.size + 1 + 1, 5, none⟩) (Nat.lt_succ_self _) (.int .i64 j2)).setCell (p := ⟨w.heap.size + 1 + 1, 6, none⟩) (Nat.lt_succ_self _) (.slice p2 m2 d2)).setCell (p := ⟨w.heap.size + 1 + 1, 8, none⟩) (Nat.lt_succ_self _) (.slice none 0 0)
  have b4 := ((b3.setCell (p := ⟨w.heap.size + 1 + 1, 5, none⟩) (by simp; omega) (.int .i64 j2)).setCell (p := ⟨w.heap.size + 1 + 1, 6, none⟩) (by simp; omega) (.slice p2 m2 d2)).setCell (p := ⟨w.heap.size + 1 + 1, 8, none⟩) (by simp; omega) (.slice none 0 0)
  have HI0 := hid (show ScI w #[.int .i64 k, .string nm, .int .i64 num, .int .i64 k1, .slice a1 n1 c1, .int .i64 k2, .slice a2 n2 c2, .int .i64 lb, .slice a3 ts.length c3] w2.heap.size k nm num lb ty fr j1 j2 m1 m2 d1 d2 p1 p2 g1 g2 (ts.take 0) (.slice none 0 0) [] (((w2.setCell ⟨w.heap.size + 1 + 1, 5, none⟩ (.int .i64 j2)).setCell ⟨w.heap.size + 1 + 1, 6, none⟩ (.slice p2 m2 d2)).setCell ⟨w.heap.size + 1 + 1, 8, none⟩ (.slice none 0 0)) from
    ⟨⟨blk_ne (blk_ne (blk_ne hB2 (by simp; omega)) (by simp; omega)) (by simp; omega), blk_ne (blk_ne (blk_ne hZ2 (by simp)) (by simp)) (by simp), heap_setCell_at (heap_setCell_at (heap_setCell_at hO2 _) _) _, by rw [List.take_zero]; exact GrowM.zero _ _, by rw [size_setCell, size_setCell, size_setCell]; exact Nat.le_refl _, b4⟩,
      hv1.above ab2 (fun b hb => F2.ge b (by simp [hb])), hv2.above ab2 (fun b hb => F2.ge b (by simp [hb])), F2.above ab2 (Nat.le_refl _), fun b hb => (F2.2 b hb).2.1, hM2⟩)
  clear hv1 F2 hO2 hB2 hZ2 b3 hb2 hv2 hg2 ab2 b4 hM hs2
  go_wp2_with fail
  clear x0 x1 x2 x3 x4 x5 x6 x7 x8 y0 y1 y2 y3 y4 y5 y6 y7 y8 yz
  generalize hMM : w2.heap.size = MM at HI0 hM2
  go_loopw [4] (fun i wr => ∃ (j : Nat) (x : Value) (f : List Nat), j ≤ ts.length ∧ i = .int .i64 j ∧ ScI w #[.int .i64 k, .string nm, .int .i64 num, .int .i64 k1, .slice a1 n1 c1, .int .i64 k2, .slice a2 n2 c2, .int .i64 lb, .slice a3 ts.length c3] MM k nm num lb ty fr j1 j2 m1 m2 d1 d2 p1 p2 g1 g2 (ts.take j) x f wr) (fun i _ => ts.length - (intOf i).toNat)
  case atStart => exact ⟨0, _, [], Nat.zero_le _, rfl, HI0.out⟩
  case round =>
    obtain ⟨j, x, f, hj, rfl, hI⟩ := hrel
    have hI0 := hI
    obtain ⟨⟨hB, hZ, hO, hG, hs3, hx⟩, -, -, -, -, hwM⟩ := hI0
    have hlen : (ts.take j).length = j := by rw [List.length_take]; omega
    obtain ⟨av, capv, hshape⟩ := hG.shape
    rw [hlen] at hshape
    subst hshape
    obtain ⟨x0, x1, x2, x3, x4, x5, x6, x7, x8⟩ := cells9 hB
    obtain ⟨y0, y1, y2, y3, y4, y5, y6, y7, y8⟩ := cells9 hO
    have yz := fun o => frozen_of_block (o := o) hO
    have HI := hid hI
    have HLEN := hid hlen
    clear hI hlen hMM
    have hM : w.heap.size + 1 + 1 < wr.heap.size := by omega
    by_cases hlk : j < ts.length
    · obtain ⟨b, o, q0, q1, q2, q3, q4, q5, q6, q7, q8, q9, q10, q11, q12, q13, q14, fk, rfl, hblt, c0, c1', c2', c3', c4, c5, c6, c7, c8, hatk, hfk⟩ := HG.out j hlk
      have u0 := (hx.cell (p := ⟨b, o + j * 9, none⟩) hblt).trans c0
      have u1 := (hx.cell (p := ⟨b, o + j * 9 + 1, none⟩) hblt).trans c1'
      have u2 := (hx.cell (p := ⟨b, o + j * 9 + 2, none⟩) hblt).trans c2'
      have u3 := (hx.cell (p := ⟨b, o + j * 9 + 3, none⟩) hblt).trans c3'
      have u4 := (hx.cell (p := ⟨b, o + j * 9 + 4, none⟩) hblt).trans c4
      have u5 := (hx.cell (p := ⟨b, o + j * 9 + 5, none⟩) hblt).trans c5
      have u6 := (hx.cell (p := ⟨b, o + j * 9 + 6, none⟩) hblt).trans c6
      have u7 := (hx.cell (p := ⟨b, o + j * 9 + 7, none⟩) hblt).trans c7
      have u8 := (hx.cell (p := ⟨b, o + j * 9 + 8, none⟩) hblt).trans c8
      have HATK := hid (hatk.below hx)
      have hszk : ts[j].sz ≤ 1048576 := by have := HSL.out; have := sz_mem (List.getElem_mem hlk); omega
      have hj0 : (0 : Int) ≤ (j : Int) := by omega
      have hj1 : (j : Int) < (ts.length : Int) := by omega
      obtain ⟨i0, hi0, hz0, hz1, hz2⟩ := info_parts (P := Tryd.prog) (e := 34) Tryd.infoTm
      clear c0 c1' c2' c3' c4 c5 c6 c7 c8 hatk hfk hB hZ
      go_wp2_with fail
      have hmx : j + 1 ≤ maxLen := by unfold maxLen; have := HSL.out; omega
      have hby : (j + 1) * 128 ≤ 140737488355328 := by have := HSL.out; omega
      go_region_law (first
        | (refine step_append_lies _ (by rfl) _ _ _ (by rfl) MM 34 i0 _ 9 128 Tryd.underElemsM hi0 hz0 hz1 hz2 rfl (by omega) (.slice av j capv) j xs (by rfl) (ho2.alloc _) ⟨w1.heap.size, 0, none⟩ 1 1 [.int .i64 r0, .string r1, .int .i64 r2, .int .i64 r3, .slice r5 r4 r6, .int .i64 r7, .slice r9 r8 r10, .int .i64 r11, .slice r13 r12 r14] (by rfl) (by rfl) (World.news_of_block (cs := #[.int .i64 r0, .string r1, .int .i64 r2, .int .i64 r3, .slice r5 r4 r6, .int .i64 r7, .slice r9 r8 r10, .int .i64 r11, .slice r13 r12 r14]) (t := 34) (fr := (0, 0)) (heap_alloc_new w1 _)) (by simp [Value.oneCell']) (by omega) hmx hby (by simp; omega) (w1.heap.size + 1) (by simp) ?_; intro g cp w3 hown3 hgrow hat3 hlt3; have hO3 := HI.out.keep (vs := [.int .i64 r0, .string r1, .int .i64 r2, .int .i64 r3, .slice r5 r4 r6, .int .i64 r7, .slice r9 r8 r10, .int .i64 r11, .slice r13 r12 r14]) hbd hgrow; have z1 := (cell_of_block (o := 8) hO3); have z2 := (frozen_of_block (o := 8) hO3))
        | (go_simp; go_at_call 46; refine (HIH.out _ (List.getElem_mem hlk) _ _ _ (HATK.out.below (below_drew wr)) hszk).mono ?_; rintro e w1 ⟨v1, f', rfl, hat', hf', hb1⟩; obtain ⟨r0, r1, r2, r3, r4, r5, r6, r7, r8, r9, r10, r11, r12, r13, r14, rfl⟩ := hat'.agg; have hbd := below_trans (below_drew wr) hb1; have x0' := cell_keep x0 hbd; have x1' := cell_keep x1 hbd; have x2' := cell_keep x2 hbd; have x3' := cell_keep x3 hbd; have x4' := cell_keep x4 hbd; have x5' := cell_keep x5 hbd; have x6' := cell_keep x6 hbd; have x7' := cell_keep x7 hbd; have x8' := cell_keep x8 hbd; have y0' := cell_keep y0 hbd; have y1' := cell_keep y1 hbd; have y2' := cell_keep y2 hbd; have y3' := cell_keep y3 hbd; have y4' := cell_keep y4 hbd; have y5' := cell_keep y5 hbd; have y6' := cell_keep y6 hbd; have y7' := cell_keep y7 hbd; have y8' := cell_keep y8 hbd; have u0' := cell_keep u0 hbd; have u1' := cell_keep u1 hbd; have u2' := cell_keep u2 hbd; have u3' := cell_keep u3 hbd; have u4' := cell_keep u4 hbd; have u5' := cell_keep u5 hbd; have u6' := cell_keep u6 hbd; have u7' := cell_keep u7 hbd; have u8' := cell_keep u8 hbd; obtain ⟨xs, ho1, ha1, hf1, hn1⟩ := hG.below hbd; have ho2 := ho1; rw [HLEN.out] at ho2; have hO1 := (hbd.block _ hM).trans hO; have hM1 := lt_of_block hO1; have hMM1 := Nat.le_trans hs3 hbd.size))
      all_goals
        have HI2 := hid (HI.out.step (vs := [.int .i64 r0, .string r1, .int .i64 r2, .int .i64 r3, .slice r5 r4 r6, .int .i64 r7, .slice r9 r8 r10, .int .i64 r11, .slice r13 r12 r14]) (n := j + 1) hbd hat' hf' ha1 hf1 hn1 hgrow hown3 (by rw [HLEN.out]) (by simpa using hat3))
        rw [← take_succM hlk] at HI2
        have hM3 := lt_of_block hO3
        clear hO1 hO ha1 hf1 hn1 hat' hf' hgrow hown3 hat3 hlt3 ho1 ho2 hbd hG hO3 x0 x0' x1 x1' x2 x2' x3 x3' x4 x4' x5 x5' x6 x6' x7 x7' x8 x8' y0 y0' y1 y1' y2 y2' y3 y3' y4 y4' y5 y5' y6 y6' y7 y7' y8 y8' u0 u0' u1 u1' u2 u2' u3 u3' u4 u4' u5 u5' u6 u6' u7 u7' u8 u8' yz
        go_wp2_with fail
        exact ⟨⟨j + 1, _, _, by omega, by go_num, HI2.out⟩, by simp [intOf]; omega⟩
    · obtain rfl : j = ts.length := by omega
      rw [show ts.take ts.length = ts from List.take_of_length_le (Nat.le_refl _)] at HI
      have FIN := hid (HI.out.done HNM.out (by have := HSL.out; unfold maxLen; omega))
      obtain ⟨z0, z1, z2, z3, z4, z5, z6, z7, z8⟩ := cells9 hZ
      have zz := fun o => frozen_of_block (o := o) hZ
      clear hB hZ hO hG hx HI
      go_wp2_with fail
      exact bodyPost_ret (v := .agg #[.int .i64 k, .string nm, .int .i64 num, .int .i64 j1, .slice p1 m1 d1, .int .i64 j2, .slice p2 m2 d2, .int .i64 lb, .slice av ts.length capv]) (by simp [results, Tryd.results46, go_sem, z0, z1, z2, z3, z4, z5, z6, z7, z8]) rfl FIN.out

theorem l2Copy_any (t : Tm) : ScC t := Tm.ind l2Copy_of t
end Go.Proofs.YtjpmlmdbldcbjaaDoor

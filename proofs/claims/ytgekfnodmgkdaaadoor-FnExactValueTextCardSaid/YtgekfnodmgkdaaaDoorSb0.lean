/- The specification's l2Copy. -/
import Derived.Test.YtgekfnodmgkdaaaDoorPkB
import Derived.Test.YtgekfnodmgkdaaaDoorPkA
namespace Go.Proofs.YtgekfnodmgkdaaaDoor
open Go.RowKit

theorem GrowM.own_geS {B : Nat} {ds : List Tm} {v : Value} {fp : List Nat} {w : World} (h : GrowM B ds v fp w) : ∀ b, v.ownBlock = some b → B ≤ b ∧ b < w.heap.size := by
  obtain ⟨xs, ho, _⟩ := h
  exact ho.lt

theorem Ty.At.belowM {B : Nat} {w w' : World} {t : Ty} {v : Value} {fp : List Nat} (h : t.At w v fp) (hb : Below B w w') (hf : ∀ x ∈ fp, x < B) : t.At w' v fp :=
  h.congr fun b hm o => hb.cell (p := ⟨b, o, none⟩) (hf b hm)

theorem Fresh.belowM {A B : Nat} {w w' : World} {fp : List Nat} (h : Fresh A w fp) (hb : Below B w w') (hf : ∀ x ∈ fp, x < B) : Fresh A w' fp :=
  ⟨h.1, fun b hm => ⟨(h.2 b hm).1, Nat.lt_of_lt_of_le (h.2 b hm).2.1 hb.size, fun o => (hb.frozen (p := ⟨b, o, none⟩) (hf b hm)).trans ((h.2 b hm).2.2 o)⟩⟩

/-- The loop over the operands: what stands behind j rounds. -/
def ScI (w : World) (bv : Array Value) (M : Nat) (k : Int) (nm : ByteArray) (num lb : Int) (ty fr : Ty) (j1 j2 : Int) (m1 m2 d1 d2 : Nat) (p1 p2 : Option Addr) (g1 g2 : List Nat) (us : List Tm) (x8 : Value) (f : List Nat) (wr : World) : Prop :=
  (wr.heap[w.heap.size]? = some (.cells bv 35 (0, 0)) ∧ wr.heap[w.heap.size + 1]? = some (Obj.cells #[.int .i64 0, .string ByteArray.empty, .int .i64 0, .int .i64 0, .slice none 0 0, .int .i64 0, .slice none 0 0, .int .i64 0, .slice none 0 0] 35) ∧ wr.heap[w.heap.size + 1 + 1]? = some (.cells #[.int .i64 k, .string nm, .int .i64 num, .int .i64 j1, .slice p1 m1 d1, .int .i64 j2, .slice p2 m2 d2, .int .i64 lb, x8] 35 (0, 0)) ∧ GrowM M us x8 f wr ∧ M ≤ wr.heap.size ∧ Below w.heap.size w wr) ∧
    ty.At wr (.agg #[.int .i64 j1, .slice p1 m1 d1]) g1 ∧ fr.At wr (.agg #[.int .i64 j2, .slice p2 m2 d2]) g2 ∧ Fresh (w.heap.size + 1 + 1 + 1) wr (g1 ++ g2) ∧ (∀ b ∈ g1 ++ g2, b < M) ∧ w.heap.size + 1 + 1 < M

theorem ScI.step {w wr : World} {bv : Array Value} {M : Nat} {k : Int} {nm : ByteArray} {num lb : Int} {ty fr : Ty} {j1 j2 : Int} {m1 m2 d1 d2 : Nat} {p1 p2 : Option Addr} {g1 g2 : List Nat} {w1 w3 : World} {us : List Tm} {u : Tm} {x8 : Value} {f f' : List Nat} {vs xs : List Value} {g cp n : Nat} (h : ScI w bv M k nm num lb ty fr j1 j2 m1 m2 d1 d2 p1 p2 g1 g2 us x8 f wr)
    (hb : Below wr.heap.size wr w1) (hat : u.At w1 (.agg vs.toArray) f') (hf : Fresh wr.heap.size w1 f') (ha1 : AtXM w1 us xs f) (hf1 : Fresh M w1 f) (hn1 : ∀ b, x8.ownBlock = some b → b ∉ f)
    (hgrow : (w1.alloc (Obj.cells vs.toArray 35)).grownBy w3 x8.ownBlock) (hown3 : w3.ownsRow M 35 9 (.slice (some ⟨g, 0, none⟩) n cp) n (xs ++ vs)) (hn : n = us.length + 1) (hat3 : x8.ownBlock = some g ∨ g = (w1.alloc (Obj.cells vs.toArray 35)).heap.size) :
    ScI w bv M k nm num lb ty fr j1 j2 m1 m2 d1 d2 p1 p2 g1 g2 (us ++ [u]) (.slice (some ⟨g, 0, none⟩) n cp) (f ++ f') (w3.setCell ⟨w.heap.size + 1 + 1, 8, none⟩ (.slice (some ⟨g, 0, none⟩) n cp)) := by
  obtain ⟨⟨hB, hZ, hO, hG, hs, hx⟩, t1, t2, hg, hgM, hwM⟩ := h
  have hge := hG.own_geS
  have h9 : vs.length = 9 := by simpa using Tm.size9 hat
  have hG3 : GrowM M (us ++ [u]) (.slice (some ⟨g, 0, none⟩) n cp) (f ++ f') w3 := GrowM.step (w := wr) ha1 hf1 hn1 hG.block.1 hG.block.2 hs h9 hat hf ((Below.refl _ _).alloc (Nat.le_refl _) _) hgrow hown3 hn hat3
  have hs1 := hb.size
  have hw3 : Below M w1 w3 := ((Below.refl _ _).alloc (by omega) _).grown hgrow (by simp; omega) (fun b hb => (hge b hb).1)
  have hbb := (hb.mono (B' := M) (by omega)).trans hw3
  have hs3 := hbb.size
  have ab : Above (w.heap.size + 1 + 1 + 1) w3 (w3.setCell ⟨w.heap.size + 1 + 1, 8, none⟩ (.slice (some ⟨g, 0, none⟩) n cp)) := (Above.refl _ _).setCell (p := ⟨w.heap.size + 1 + 1, 8, none⟩) (Nat.lt_succ_self _) _
  refine ⟨⟨blk_ne ((hbb.block _ (by omega)).trans hB) (by simp; omega), blk_ne ((hbb.block _ (by omega)).trans hZ) (by simp), ?_, hG3.setCell (p := ⟨w.heap.size + 1 + 1, 8, none⟩) hwM _, by rw [size_setCell]; omega, (hx.trans (hbb.mono (by omega))).setCell (p := ⟨w.heap.size + 1 + 1, 8, none⟩) (by simp; omega) _⟩,
    (t1.belowM hbb (fun b hb => hgM b (by simp [hb]))).above ab (fun b hb => hg.ge b (by simp [hb])), (t2.belowM hbb (fun b hb => hgM b (by simp [hb]))).above ab (fun b hb => hg.ge b (by simp [hb])), (hg.belowM hbb hgM).above ab (Nat.le_refl _), hgM, hwM⟩
  rw [heap_setCell_at ((hbb.block _ (by omega)).trans hO)]
  rfl

theorem ScI.keep {w wr : World} {bv : Array Value} {M : Nat} {k : Int} {nm : ByteArray} {num lb : Int} {ty fr : Ty} {j1 j2 : Int} {m1 m2 d1 d2 : Nat} {p1 p2 : Option Addr} {g1 g2 : List Nat} {w1 w3 : World} {us : List Tm} {x8 : Value} {f : List Nat} {vs : List Value} (h : ScI w bv M k nm num lb ty fr j1 j2 m1 m2 d1 d2 p1 p2 g1 g2 us x8 f wr)
    (hb : Below wr.heap.size wr w1) (hgrow : (w1.alloc (Obj.cells vs.toArray 35)).grownBy w3 x8.ownBlock) : w3.heap[w.heap.size + 1 + 1]? = some (.cells #[.int .i64 k, .string nm, .int .i64 num, .int .i64 j1, .slice p1 m1 d1, .int .i64 j2, .slice p2 m2 d2, .int .i64 lb, x8] 35 (0, 0)) := by
  obtain ⟨⟨hB, hZ, hO, hG, hs, hx⟩, t1, t2, hg, hgM, hwM⟩ := h
  have hge := hG.own_geS
  have hs1 := hb.size
  have hw3 : Below M w1 w3 := ((Below.refl _ _).alloc (by omega) _).grown hgrow (by simp; omega) (fun b hb => (hge b hb).1)
  have hbb := (hb.mono (B' := M) (by omega)).trans hw3
  exact (hbb.block _ (by omega)).trans hO

theorem ScI.done {w wr : World} {bv : Array Value} {M : Nat} {k : Int} {nm : ByteArray} {num lb : Int} {ty fr : Ty} {j1 j2 : Int} {m1 m2 d1 d2 : Nat} {p1 p2 : Option Addr} {g1 g2 : List Nat} {us : List Tm} {x8 : Value} {f : List Nat} (h : ScI w bv M k nm num lb ty fr j1 j2 m1 m2 d1 d2 p1 p2 g1 g2 us x8 f wr) (hnm : nm.size ≤ 9223372036854775807) (hm : us.length ≤ maxLen) :
    MadeM w (.mk k nm num ty fr lb us) (.returned (.agg #[.int .i64 k, .string nm, .int .i64 num, .int .i64 j1, .slice p1 m1 d1, .int .i64 j2, .slice p2 m2 d2, .int .i64 lb, x8])) (put wr (w.heap.size + 1) 0 (#[.int .i64 k, .string nm, .int .i64 num, .int .i64 j1, .slice p1 m1 d1, .int .i64 j2, .slice p2 m2 d2, .int .i64 lb, x8]).toList) := by
  obtain ⟨⟨hB, hZ, hO, hG, hs, hx⟩, t1, t2, hg, hgM, hwM⟩ := h
  obtain ⟨fp, hsm, hf⟩ := hG.done hm
  have ab : Above (w.heap.size + 1 + 1) wr (put wr (w.heap.size + 1) 0 (#[.int .i64 k, .string nm, .int .i64 num, .int .i64 j1, .slice p1 m1 d1, .int .i64 j2, .slice p2 m2 d2, .int .i64 lb, x8]).toList) := (Above.refl _ _).put (Nat.lt_succ_self _)
  have q1 := t1.above ab (fun b hb => by have := hg.ge b (by simp [hb]); omega)
  have q2 := t2.above ab (fun b hb => by have := hg.ge b (by simp [hb]); omega)
  have q3 := hsm.above ab (fun b hb => by have := hf.ge b hb; omega)
  have F1 := (hg.above ab (by omega)).mono (B' := w.heap.size) (by omega)
  have F2 := (hf.above ab (by omega)).mono (B' := w.heap.size) (by omega)
  refine ⟨_, g1 ++ (g2 ++ fp), rfl, Tm.at_mk.2 ⟨_, _, _, _, _, g1, g2, fp, rfl, hnm, q1, q2, rfl, q3⟩, ?_, below_put hx (by omega)⟩
  rw [← List.append_assoc]
  refine ⟨List.nodup_append.2 ⟨F1.1, F2.1, fun a ha b hb e => ?_⟩, fun b hb => ?_⟩
  · have := hgM a ha
    have := hf.ge b hb
    omega
  · rcases List.mem_append.1 hb with hb | hb
    · exact F1.2 b hb
    · exact F2.2 b hb

end Go.Proofs.YtgekfnodmgkdaaaDoor

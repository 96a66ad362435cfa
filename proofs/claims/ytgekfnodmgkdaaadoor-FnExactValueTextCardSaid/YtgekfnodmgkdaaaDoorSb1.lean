/- The specification's l2Subst. -/
import Derived.Test.YtgekfnodmgkdaaaDoorSb0
namespace Go.Proofs.YtgekfnodmgkdaaaDoor
open Go.RowKit

section
variable (name : ByteArray) (u : Tm)
mutual
/-- A free name replaced by a tree. -/
def subT : Tm → Tm
  | .mk k nm num ty fr lb ts => if k = 1 ∧ nm = name then u else if k = 5 ∧ nm = name then .mk k nm num ty fr lb ts else .mk k nm num ty fr lb (subL ts)
def subL : List Tm → List Tm
  | [] => []
  | t :: ts => subT t :: subL ts
end

theorem subL_len : ∀ ts : List Tm, (subL name u ts).length = ts.length
  | [] => by simp [subL]
  | t :: ts => by simp [subL, subL_len ts]

theorem subL_take : ∀ (ts : List Tm) (j : Nat) (h : j < ts.length), (subL name u ts).take (j + 1) = (subL name u ts).take j ++ [subT name u ts[j]]
  | t :: ts, 0, _ => by simp [subL]
  | t :: ts, j + 1, h => by
    simp only [subL, List.take_succ_cons, List.getElem_cons_succ, List.cons_append]
    rw [subL_take ts j (by simpa using h)]
end

theorem name_ne {a b : ByteArray} (h : a ≠ b) : (a.toList == b.toList) = false := by
  rw [ByteArray.toList_eq, ByteArray.toList_eq]
  rw [beq_eq_false_iff_ne]
  intro e
  exact h (ByteArray.ext (Array.toList_inj.1 e))

theorem four_out {w wr : World} {o1 o2 o3 o4 : Obj} (h : Below ((((w.alloc o1).alloc o2).alloc o3).alloc o4).heap.size ((((w.alloc o1).alloc o2).alloc o3).alloc o4) wr) :
    wr.heap[w.heap.size]? = some o1 ∧ wr.heap[w.heap.size + 1]? = some o2 ∧ wr.heap[w.heap.size + 1 + 1]? = some o3 ∧ wr.heap[w.heap.size + 1 + 1 + 1]? = some o4 := by
  obtain ⟨a, b, c⟩ := three_out (alloc1 h)
  refine ⟨a, b, c, ?_⟩
  rw [h.block _ (by simp)]
  have := alloc_new (((w.alloc o1).alloc o2).alloc o3) o4
  simpa using this

/-- The loop over the operands: what stands behind j rounds. -/
def SvI (w : World) (bv vv : Array Value) (M : Nat) (k : Int) (nm : ByteArray) (num lb : Int) (ty fr : Ty) (j1 j2 : Int) (m1 m2 d1 d2 : Nat) (p1 p2 : Option Addr) (g1 g2 : List Nat) (us : List Tm) (x8 : Value) (f : List Nat) (wr : World) : Prop :=
  (wr.heap[w.heap.size]? = some (.cells bv 35 (0, 0)) ∧ wr.heap[w.heap.size + 1]? = some (.cells vv 35 (0, 0)) ∧ wr.heap[w.heap.size + 1 + 1]? = some (Obj.cells #[.int .i64 0, .string ByteArray.empty, .int .i64 0, .int .i64 0, .slice none 0 0, .int .i64 0, .slice none 0 0, .int .i64 0, .slice none 0 0] 35) ∧ wr.heap[w.heap.size + 1 + 1 + 1]? = some (.cells #[.int .i64 k, .string nm, .int .i64 num, .int .i64 j1, .slice p1 m1 d1, .int .i64 j2, .slice p2 m2 d2, .int .i64 lb, x8] 35 (0, 0)) ∧ GrowM M us x8 f wr ∧ M ≤ wr.heap.size ∧ Below w.heap.size w wr) ∧
    ty.At wr (.agg #[.int .i64 j1, .slice p1 m1 d1]) g1 ∧ fr.At wr (.agg #[.int .i64 j2, .slice p2 m2 d2]) g2 ∧ Fresh (w.heap.size + 1 + 1 + 1 + 1) wr (g1 ++ g2) ∧ (∀ b ∈ g1 ++ g2, b < M) ∧ w.heap.size + 1 + 1 + 1 < M

theorem SvI.step {w wr : World} {bv vv : Array Value} {M : Nat} {k : Int} {nm : ByteArray} {num lb : Int} {ty fr : Ty} {j1 j2 : Int} {m1 m2 d1 d2 : Nat} {p1 p2 : Option Addr} {g1 g2 : List Nat} {w1 w3 : World} {us : List Tm} {u : Tm} {x8 : Value} {f f' : List Nat} {vs xs : List Value} {g cp n : Nat} (h : SvI w bv vv M k nm num lb ty fr j1 j2 m1 m2 d1 d2 p1 p2 g1 g2 us x8 f wr)
    (hb : Below wr.heap.size wr w1) (hat : u.At w1 (.agg vs.toArray) f') (hf : Fresh wr.heap.size w1 f') (ha1 : AtXM w1 us xs f) (hf1 : Fresh M w1 f) (hn1 : ∀ b, x8.ownBlock = some b → b ∉ f)
    (hgrow : (w1.alloc (Obj.cells vs.toArray 35)).grownBy w3 x8.ownBlock) (hown3 : w3.ownsRow M 35 9 (.slice (some ⟨g, 0, none⟩) n cp) n (xs ++ vs)) (hn : n = us.length + 1) (hat3 : x8.ownBlock = some g ∨ g = (w1.alloc (Obj.cells vs.toArray 35)).heap.size) :
    SvI w bv vv M k nm num lb ty fr j1 j2 m1 m2 d1 d2 p1 p2 g1 g2 (us ++ [u]) (.slice (some ⟨g, 0, none⟩) n cp) (f ++ f') (w3.setCell ⟨w.heap.size + 1 + 1 + 1, 8, none⟩ (.slice (some ⟨g, 0, none⟩) n cp)) := by
  obtain ⟨⟨hB, hV, hZ, hO, hG, hs, hx⟩, t1, t2, hg, hgM, hwM⟩ := h
  have hge := hG.own_geS
  have h9 : vs.length = 9 := by simpa using Tm.size9 hat
  have hG3 : GrowM M (us ++ [u]) (.slice (some ⟨g, 0, none⟩) n cp) (f ++ f') w3 := GrowM.step (w := wr) ha1 hf1 hn1 hG.block.1 hG.block.2 hs h9 hat hf ((Below.refl _ _).alloc (Nat.le_refl _) _) hgrow hown3 hn hat3
  have hs1 := hb.size
  have hw3 : Below M w1 w3 := ((Below.refl _ _).alloc (by omega) _).grown hgrow (by simp; omega) (fun b hb => (hge b hb).1)
  have hbb := (hb.mono (B' := M) (by omega)).trans hw3
  have hs3 := hbb.size
  have ab : Above (w.heap.size + 1 + 1 + 1 + 1) w3 (w3.setCell ⟨w.heap.size + 1 + 1 + 1, 8, none⟩ (.slice (some ⟨g, 0, none⟩) n cp)) := (Above.refl _ _).setCell (p := ⟨w.heap.size + 1 + 1 + 1, 8, none⟩) (Nat.lt_succ_self _) _
  refine ⟨⟨blk_ne ((hbb.block _ (by omega)).trans hB) (by simp; omega), blk_ne ((hbb.block _ (by omega)).trans hV) (by simp), blk_ne ((hbb.block _ (by omega)).trans hZ) (by simp), ?_, hG3.setCell (p := ⟨w.heap.size + 1 + 1 + 1, 8, none⟩) hwM _, by rw [size_setCell]; omega, (hx.trans (hbb.mono (by omega))).setCell (p := ⟨w.heap.size + 1 + 1 + 1, 8, none⟩) (by simp; omega) _⟩,
    (t1.belowM hbb (fun b hb => hgM b (by simp [hb]))).above ab (fun b hb => hg.ge b (by simp [hb])), (t2.belowM hbb (fun b hb => hgM b (by simp [hb]))).above ab (fun b hb => hg.ge b (by simp [hb])), (hg.belowM hbb hgM).above ab (Nat.le_refl _), hgM, hwM⟩
  rw [heap_setCell_at ((hbb.block _ (by omega)).trans hO)]
  rfl

theorem SvI.keep {w wr : World} {bv vv : Array Value} {M : Nat} {k : Int} {nm : ByteArray} {num lb : Int} {ty fr : Ty} {j1 j2 : Int} {m1 m2 d1 d2 : Nat} {p1 p2 : Option Addr} {g1 g2 : List Nat} {w1 w3 : World} {us : List Tm} {x8 : Value} {f : List Nat} {vs : List Value} (h : SvI w bv vv M k nm num lb ty fr j1 j2 m1 m2 d1 d2 p1 p2 g1 g2 us x8 f wr)
    (hb : Below wr.heap.size wr w1) (hgrow : (w1.alloc (Obj.cells vs.toArray 35)).grownBy w3 x8.ownBlock) : w3.heap[w.heap.size + 1 + 1 + 1]? = some (.cells #[.int .i64 k, .string nm, .int .i64 num, .int .i64 j1, .slice p1 m1 d1, .int .i64 j2, .slice p2 m2 d2, .int .i64 lb, x8] 35 (0, 0)) := by
  obtain ⟨⟨hB, hV, hZ, hO, hG, hs, hx⟩, t1, t2, hg, hgM, hwM⟩ := h
  have hge := hG.own_geS
  have hs1 := hb.size
  have hw3 : Below M w1 w3 := ((Below.refl _ _).alloc (by omega) _).grown hgrow (by simp; omega) (fun b hb => (hge b hb).1)
  have hbb := (hb.mono (B' := M) (by omega)).trans hw3
  exact (hbb.block _ (by omega)).trans hO

theorem SvI.done {w wr : World} {bv vv : Array Value} {M : Nat} {k : Int} {nm : ByteArray} {num lb : Int} {ty fr : Ty} {j1 j2 : Int} {m1 m2 d1 d2 : Nat} {p1 p2 : Option Addr} {g1 g2 : List Nat} {us : List Tm} {x8 : Value} {f : List Nat} (h : SvI w bv vv M k nm num lb ty fr j1 j2 m1 m2 d1 d2 p1 p2 g1 g2 us x8 f wr) (hnm : nm.size ≤ 9223372036854775807) (hm : us.length ≤ maxLen) :
    MadeM w (.mk k nm num ty fr lb us) (.returned (.agg #[.int .i64 k, .string nm, .int .i64 num, .int .i64 j1, .slice p1 m1 d1, .int .i64 j2, .slice p2 m2 d2, .int .i64 lb, x8])) (put wr (w.heap.size + 1 + 1) 0 (#[.int .i64 k, .string nm, .int .i64 num, .int .i64 j1, .slice p1 m1 d1, .int .i64 j2, .slice p2 m2 d2, .int .i64 lb, x8]).toList) := by
  obtain ⟨⟨hB, hV, hZ, hO, hG, hs, hx⟩, t1, t2, hg, hgM, hwM⟩ := h
  obtain ⟨fp, hsm, hf⟩ := hG.done hm
  have ab : Above (w.heap.size + 1 + 1 + 1) wr (put wr (w.heap.size + 1 + 1) 0 (#[.int .i64 k, .string nm, .int .i64 num, .int .i64 j1, .slice p1 m1 d1, .int .i64 j2, .slice p2 m2 d2, .int .i64 lb, x8]).toList) := (Above.refl _ _).put (Nat.lt_succ_self _)
  have q1 := t1.above ab (fun b hb => by have := hg.ge b (by simp [hb]); omega)
  have q2 := t2.above ab (fun b hb => by have := hg.ge b (by simp [hb]); omega)
  have q3 := hsm.above ab (fun b hb => by have := hf.ge b hb; omega)
  have F1 := (hg.above ab (by omega)).mono (B' := w.heap.size) (by omega)
  have F2 := (hf.above ab (by omega)).mono (B' := w.heap.size) (by omega)
  refine ⟨_, g1 ++ (g2 ++ fp), rfl, Tm.at_mk.2 ⟨_, _, _, _, _, g1, g2, fp, rfl, hnm, q1, q2, rfl, q3⟩, ?_, below_put hx (by omega)⟩
  rw [← List.append_assoc]
  refine ⟨List.nodup_append.2 ⟨F1.1, F2.1, fun a ha b hb e => ?_⟩, fun b hb => ?_⟩
  · have := hgM a ha
    have := hf.ge b hb
    omega
  · rcases List.mem_append.1 hb with hb | hb
    · exact F1.2 b hb
    · exact F2.2 b hb

end Go.Proofs.YtgekfnodmgkdaaaDoor

/- What a visit leaves: worlds in which only new blocks, one variable and a slice's own block are written. -/
import Derived.Test.YtffmpjcjmffdeaaDoorPkB
import Derived.Test.YtffmpjcjmffdeaaDoorCpT
import Derived.Test.YtffmpjcjmffdeaaDoorPkA
namespace Go.Proofs.YtffmpjcjmffdeaaDoor
open Go.RowKit

/-- The variable of block M holds a slice of the call's own that reads as the types ds. -/
def ListAt (M B : Nat) (ds : List Ty) (v : Value) (w : World) : Prop := ∃ g, w.heap[M]? = some (.cells #[v] 30 (0, 0)) ∧ GrowT B ds v g w ∧ M < B

theorem ListAt.below {M B : Nat} {ds : List Ty} {v : Value} {w w' : World} (h : ListAt M B ds v w) (hb : Below w.heap.size w w') : ListAt M B ds v w' := by
  obtain ⟨g, h1, h2, h3⟩ := h
  exact ⟨g, blk h1 hb, h2.below hb, h3⟩

/-- From w to w' only new blocks, block M and v's own block have been written. -/
def Lr (M : Nat) (w w' : World) (v v' : Value) : Prop := (w'.os = w.os ∧ w'.tape = w.tape ∧ w'.output = w.output ∧ w.heap.size ≤ w'.heap.size) ∧ (∀ k, k < w.heap.size → k ≠ M → some k ≠ v.ownBlock → w'.heap[k]? = w.heap[k]?) ∧ (v'.ownBlock = v.ownBlock ∨ ∃ b, v'.ownBlock = some b ∧ w.heap.size ≤ b)

theorem Lr.of_below {M : Nat} {w w' : World} (h : Below w.heap.size w w') (v : Value) : Lr M w w' v v := ⟨⟨h.os, h.tape, h.output, h.size⟩, fun k hk _ _ => h.block k hk, .inl rfl⟩

theorem Lr.trans {M : Nat} {a b c : World} {x y z : Value} (h : Lr M a b x y) (k : Lr M b c y z) : Lr M a c x z := by
  obtain ⟨⟨h1, h2, h3, h4⟩, h5, h6⟩ := h
  obtain ⟨⟨k1, k2, k3, k4⟩, k5, k6⟩ := k
  refine ⟨⟨k1.trans h1, k2.trans h2, k3.trans h3, Nat.le_trans h4 k4⟩, fun i hi hM hn => ?_, ?_⟩
  · rw [k5 i (Nat.lt_of_lt_of_le hi h4) hM ?_, h5 i hi hM hn]
    rcases h6 with h6 | ⟨b, h6, hb⟩
    · rw [h6]; exact hn
    · rw [h6]
      intro e
      have := Option.some.inj e
      omega
  · rcases k6 with k6 | ⟨b, k6, hb⟩
    · rcases h6 with h6 | ⟨b, h6, hb⟩
      · exact .inl (k6.trans h6)
      · exact .inr ⟨b, k6.trans h6, hb⟩
    · exact .inr ⟨b, k6, Nat.le_trans h4 hb⟩

theorem Lr.heap {M : Nat} {w w' : World} {v v' : Value} (h : Lr M w w' v v') {k : Nat} {o : Obj} (hk : w.heap[k]? = some o) (hM : k ≠ M) (hn : some k ≠ v.ownBlock) : w'.heap[k]? = some o := (h.2.1 k (lt_of_block hk) hM hn).trans hk

theorem Lr.below {M B : Nat} {w w' : World} {v v' : Value} (h : Lr M w w' v v') (hMB : M < B) (hB : B ≤ w.heap.size) (ho : ∀ b, v.ownBlock = some b → B ≤ b) : Below M w w' :=
  ⟨h.1.1, h.1.2.1, h.1.2.2.1, h.1.2.2.2, fun k hk => h.2.1 k (by omega) (by omega) (fun e => by have := ho k e.symm; omega)⟩

theorem copyType_from {W0 U : World} {t : Ty} {v : Value} {fp : List Nat} (hU : Below W0.heap.size W0 U) (h : t.At W0 v fp) (hw : wf t) :
    Calls Tryd.prog 63 #[v] U fun e w' => (∃ v' f', e = .returned v' ∧ t.At w' v' f' ∧ Fresh U.heap.size w' f' ∧ Below U.heap.size U w') ∧ Below W0.heap.size W0 U :=
  (copyType_any t v fp U (h.below hU) hw).mono fun _ _ hm => ⟨hm, hU⟩

theorem news_in {w : World} {o o' : Obj} {w1 : World} (hb : Below ((w.alloc o).drew.alloc o').heap.size ((w.alloc o).drew.alloc o') w1) : w1.heap[w.heap.size + 1]? = some o' := by
  rw [hb.block _ (by simp)]
  have := alloc_new (w.alloc o).drew o'
  simpa using this

/-- The last element's cells of a row of the call's own. -/
theorem own_last {w : World} {B g n cap : Nat} {T : TypeId} {xs : List Value} {z0 z1 : Value} (h : w.ownsRow B T 2 (.slice (some ⟨g, 0, none⟩) (n + 1) cap) (n + 1) (xs ++ [z0, z1])) :
    (∃ a b, w.cell? ⟨g, n * 2, none⟩ = some a ∧ w.cell? ⟨g, n * 2 + 1, none⟩ = some b) ∧ ∀ o, w.frozen? ⟨g, o, none⟩ = false := by
  rcases h.2 with ⟨h0, _⟩ | ⟨g', cap', cur, e, hb, hg, hc, hm, hsz, hx⟩
  · cases h0
  · cases e
    refine ⟨⟨cur[n * 2]'(by omega), cur[n * 2 + 1]'(by omega), ?_, ?_⟩, fun o => frozen_of_block hg⟩
    · rw [cell_of_block hg]; exact Array.getElem?_eq_getElem _
    · rw [cell_of_block hg]; exact Array.getElem?_eq_getElem _

/-- The last element written. -/
theorem own_fill {w : World} {B g n cap : Nat} {T : TypeId} {xs : List Value} {z0 z1 : Value} (h : w.ownsRow B T 2 (.slice (some ⟨g, 0, none⟩) (n + 1) cap) (n + 1) (xs ++ [z0, z1])) (x y : Value) :
    ((w.setCell ⟨g, n * 2, none⟩ x).setCell ⟨g, n * 2 + 1, none⟩ y).ownsRow B T 2 (.slice (some ⟨g, 0, none⟩) (n + 1) cap) (n + 1) (xs ++ [x, y]) := by
  obtain ⟨h1, h2⟩ := h
  have hxl : xs.length = n * 2 := by simp at h1; omega
  refine ⟨by simp; omega, ?_⟩
  rcases h2 with ⟨h0, _⟩ | ⟨g', cap', cur, e, hb, hg, hc, hm, hsz, hx⟩
  · cases h0
  · cases e
    refine .inr ⟨g, cap, _, rfl, hb, heap_setCell_at (heap_setCell_at hg x) y, hc, hm, by simp [hsz], ?_⟩
    simp only [Array.toList_setIfInBounds]
    rw [List.take_set, List.take_set, hx, ← hxl, List.set_append_right _ _ (Nat.le_refl _), Nat.sub_self, List.set_append_right _ _ (by omega), show xs.length + 1 - xs.length = 1 by omega]
    rfl

theorem grown_store {w w' : World} {row : Option Nat} {g o : Nat} (h : w.grownBy w' row) (hg : row = some g ∨ w.heap.size ≤ g) (u : Value) : w.grownBy (w'.setCell ⟨g, o, none⟩ u) row :=
  ⟨h.os, h.tape, h.output, by rw [size_setCell]; exact h.size, fun k hk hn => (Below.heap_setCell _ _ _ _ (by
    intro e
    rcases hg with hg | hg
    · exact hn (by rw [hg]; exact congrArg some e)
    · have : k = g := e
      omega)).trans (h.block k hk hn)⟩

theorem setCell_comm (w : World) (a b : Addr) (u v : Value) (h : a.block ≠ b.block) : (w.setCell a u).setCell b v = (w.setCell b v).setCell a u := by
  simp only [World.setCell]
  congr 1
  apply Array.ext_getElem?
  intro i
  simp only [Array.getElem?_modify]
  by_cases h1 : a.block = i
  · by_cases h2 : b.block = i
    · exact absurd (h1.trans h2.symm) h
    · simp [h1, h2]
  · by_cases h2 : b.block = i
    · simp [h1, h2]
    · simp [h1, h2]

/-- What the visit leaves behind its three stores. -/
theorem visit_close {w w0 U w1 w2 w3 : World} {M B g3 cp : Nat} {ds : List Ty} {t : Ty} {v vold x y z0 z1 : Value} {g f' : List Nat} {xs : List Value} (hO : w0.heap[M]? = some (.cells #[vold] 30 (0, 0))) (hG1 : GrowT B ds v g w0)
    (hU : Below w0.heap.size w0 U) (hb1 : Below U.heap.size U w1) (ha1 : AtXs w1 ds xs g) (hf1 : Fresh B w1 g) (hn1 : ∀ b, v.ownBlock = some b → b ∉ g) (hat' : t.At w1 (.agg #[x, y]) f') (hf' : Fresh U.heap.size w1 f') (hw2 : Below w1.heap.size w1 w2)
    (hgrow : w2.grownBy w3 v.ownBlock) (hown3 : w3.ownsRow B 32 2 (.slice (some ⟨g3, 0, none⟩) (ds.length + 1) cp) (ds.length + 1) (xs ++ [z0, z1])) (hat4 : v.ownBlock = some g3 ∨ g3 = w2.heap.size) (hMB : M < B) (hBw : B ≤ w0.heap.size) (hb0 : Below w.heap.size w w0) (_hMlt : M < w.heap.size) :
    ListAt M B (ds ++ [t]) (.slice (some ⟨g3, 0, none⟩) (ds.length + 1) cp) (((w3.setCell ⟨g3, ds.length * 2, none⟩ x).setCell ⟨g3, ds.length * 2 + 1, none⟩ y).setCell ⟨M, 0, none⟩ (.slice (some ⟨g3, 0, none⟩) (ds.length + 1) cp)) ∧
      Lr M w (((w3.setCell ⟨g3, ds.length * 2, none⟩ x).setCell ⟨g3, ds.length * 2 + 1, none⟩ y).setCell ⟨M, 0, none⟩ (.slice (some ⟨g3, 0, none⟩) (ds.length + 1) cp)) v (.slice (some ⟨g3, 0, none⟩) (ds.length + 1) cp) := by
  have hgw : w2.grownBy ((w3.setCell ⟨g3, ds.length * 2, none⟩ x).setCell ⟨g3, ds.length * 2 + 1, none⟩ y) v.ownBlock :=
    grown_store (grown_store hgrow (hat4.imp id (fun h => by omega)) x) (hat4.imp id (fun h => by omega)) y
  have hG4 := GrowT.step (w := U) ha1 hf1 hn1 (fun b hb => Nat.lt_of_lt_of_le (hG1.block.1 b hb) hU.size) (fun b hb => Nat.lt_of_lt_of_le (hG1.block.2 b hb) hU.size) (Nat.le_trans hBw hU.size) hat' hf' hw2 hgw (own_fill hown3 x y) rfl hat4
  have hMo : some M ≠ v.ownBlock := fun e => by have := (hG1.own_ge M e.symm).1; omega
  have hM2 := blk (blk (blk hO hU) hb1) hw2
  have hM4 : ((w3.setCell ⟨g3, ds.length * 2, none⟩ x).setCell ⟨g3, ds.length * 2 + 1, none⟩ y).heap[M]? = _ := (hgw.block M (lt_of_block hM2) hMo).trans hM2
  have s0 := hb0.size
  have s1 := hU.size
  have s2 := hb1.size
  have s3 := hw2.size
  refine ⟨⟨_, heap_setCell_at hM4 _, hG4.setCell (p := ⟨M, 0, none⟩) hMB _, hMB⟩, ⟨⟨?_, ?_, ?_, ?_⟩, fun k hk hkM hn => ?_, ?_⟩⟩
  · exact hgw.os.trans (hw2.os.trans (hb1.os.trans (hU.os.trans hb0.os)))
  · exact hgw.tape.trans (hw2.tape.trans (hb1.tape.trans (hU.tape.trans hb0.tape)))
  · exact hgw.output.trans (hw2.output.trans (hb1.output.trans (hU.output.trans hb0.output)))
  · have := hgw.size
    rw [size_setCell]
    omega
  · rw [Below.heap_setCell _ _ _ _ hkM, hgw.block k (by omega) hn, hw2.block k (by omega), hb1.block k (by omega), hU.block k (by omega), hb0.block k hk]
  · rcases hat4 with h | h
    · exact .inl h.symm
    · exact .inr ⟨g3, rfl, by omega⟩

theorem mne {M B g S s0 : Nat} {v : Value} (ho : ∀ b, v.ownBlock = some b → B ≤ b ∧ b < s0) (hMB : M < B) (hat : v.ownBlock = some g ∨ g = S) (hM : M < S) : M ≠ g := by
  rcases hat with h | h
  · have := (ho g h).1
    omega
  · omega

theorem m_cell {w w' : World} {v u : Value} {M B s0 : Nat} (hg : w.grownBy w' v.ownBlock) (ho : ∀ b, v.ownBlock = some b → B ≤ b ∧ b < s0) (hMB : M < B) (hc : w.cell? ⟨M, 0, none⟩ = some u) : w'.cell? ⟨M, 0, none⟩ = some u :=
  (hg.cell_far ⟨M, 0, none⟩ (World.block_lt_of_cell? _ _ hc) (fun e => by have : M = M := rfl; have := (ho M e.symm).1; omega)).trans hc

theorem m_frozen {w w' : World} {v : Value} {M B s0 : Nat} {C : Array Value} {T : TypeId} (hg : w.grownBy w' v.ownBlock) (ho : ∀ b, v.ownBlock = some b → B ≤ b ∧ b < s0) (hMB : M < B) (hc : w.heap[M]? = some (.cells C T (0, 0))) : w'.frozen? ⟨M, 0, none⟩ = false :=
  (hg.frozen_far ⟨M, 0, none⟩ (lt_of_block hc) (fun e => by have := (ho M e.symm).1; omega)).trans (frozen_of_block hc)

end Go.Proofs.YtffmpjcjmffdeaaDoor

/- What a call that appends to a slice of the caller's leaves alone. -/
import Derived.Test.YtbmlodikfmpfoaaDoorGrow
import Derived.Test.YtbmlodikfmpfoaaDoorMTo
namespace Go.Proofs.YtbmlodikfmpfoaaDoor
open Go.RowKit

/-- From w to w' only new blocks and v's own block have been written; v' lies in v's block or in a new one. -/
def Gr (w w' : World) (v v' : Value) : Prop := w.grownBy w' v.ownBlock ∧ (v'.ownBlock = v.ownBlock ∨ ∃ b, v'.ownBlock = some b ∧ w.heap.size ≤ b)

theorem Gr.refl (w : World) (v : Value) : Gr w w v v := ⟨⟨rfl, rfl, rfl, Nat.le_refl _, fun _ _ _ => rfl⟩, .inl rfl⟩

theorem Gr.of_below {w w' : World} (h : Below w.heap.size w w') (v : Value) : Gr w w' v v := ⟨grown_of_below h _, .inl rfl⟩

theorem Gr.trans {a b c : World} {x y z : Value} (h : Gr a b x y) (k : Gr b c y z) : Gr a c x z := by
  obtain ⟨h1, h2⟩ := h
  obtain ⟨k1, k2⟩ := k
  refine ⟨⟨k1.os.trans h1.os, k1.tape.trans h1.tape, k1.output.trans h1.output, Nat.le_trans h1.size k1.size, fun i hi hn => ?_⟩, ?_⟩
  · rw [k1.block i (Nat.lt_of_lt_of_le hi h1.size) ?_, h1.block i hi hn]
    rcases h2 with h2 | ⟨b, h2, hb⟩
    · rw [h2]; exact hn
    · rw [h2]
      intro e
      have := Option.some.inj e
      omega
  · rcases k2 with k2 | ⟨b, k2, hb⟩
    · rcases h2 with h2 | ⟨b, h2, hb⟩
      · exact .inl (k2.trans h2)
      · exact .inr ⟨b, k2.trans h2, hb⟩
    · exact .inr ⟨b, k2, Nat.le_trans h1.size hb⟩

theorem Gr.size {w w' : World} {v v' : Value} (h : Gr w w' v v') : w.heap.size ≤ w'.heap.size := h.1.size

/-- A block that is not v's own is as it was. -/
theorem Gr.heap {w w' : World} {v v' : Value} (h : Gr w w' v v') {M : Nat} {o : Obj} (hM : w.heap[M]? = some o) (hn : some M ≠ v.ownBlock) : w'.heap[M]? = some o :=
  (h.1.block M (lt_of_block hM) hn).trans hM

theorem Gr.cell {w w' : World} {v v' : Value} (h : Gr w w' v v') {b o : Nat} {u : Value} (hc : w.cell? ⟨b, o, none⟩ = some u) (hn : some b ≠ v.ownBlock) : w'.cell? ⟨b, o, none⟩ = some u :=
  (h.1.cell_far ⟨b, o, none⟩ (World.block_lt_of_cell? _ _ hc) hn).trans hc

theorem Gr.tm {w w' : World} {v v' : Value} (h : Gr w w' v v') {t : Tm} {x : Value} {fp : List Nat} (ht : t.At w x fp) (hn : ∀ b ∈ fp, some b ≠ v.ownBlock) : t.At w' x fp :=
  ht.congr fun b hb o => h.1.cell_far ⟨b, o, none⟩ (ht.lt b hb) (hn b hb)

theorem Gr.ty {w w' : World} {v v' : Value} (h : Gr w w' v v') {t : Ty} {x : Value} {fp : List Nat} (ht : t.At w x fp) (hn : ∀ b ∈ fp, some b ≠ v.ownBlock) : t.At w' x fp :=
  ht.congr fun b hb o => h.1.cell_far ⟨b, o, none⟩ (ht.lt b hb) (hn b hb)

/-- Old blocks below B are as they were, if v's own block lies from B on. -/
theorem Gr.below {w w' : World} {v v' : Value} (h : Gr w w' v v') {B : Nat} (hB : B ≤ w.heap.size) (hn : ∀ b, v.ownBlock = some b → B ≤ b) : Below B w w' :=
  ⟨h.1.os, h.1.tape, h.1.output, h.1.size, fun k hk => h.1.block k (by omega) (fun e => by have := hn k e.symm; omega)⟩

theorem GrowT.own_ge {B : Nat} {ds : List Ty} {v : Value} {fp : List Nat} {w : World} (h : GrowT B ds v fp w) : ∀ b, v.ownBlock = some b → B ≤ b ∧ b < w.heap.size := by
  obtain ⟨xs, ho, _⟩ := h
  exact ho.lt

/-- Behind an append of one element. -/
theorem Gr.append {w0 w1 w3 : World} {v : Value} {o : Obj} {g n cap : Nat} (hb : Below w0.heap.size w0 w1) (hg : (w1.alloc o).grownBy w3 v.ownBlock) (hat : v.ownBlock = some g ∨ g = w1.heap.size + 1) : Gr w0 w3 v (.slice (some ⟨g, 0, none⟩) n cap) := by
  have hs := hb.size
  refine ⟨⟨hg.os.trans hb.os, hg.tape.trans hb.tape, hg.output.trans hb.output, Nat.le_trans hs (by have := hg.size; simp at this; omega), fun k hk hn => ?_⟩, ?_⟩
  · rw [hg.block k (by simp; omega) hn, Below.heap_alloc _ _ _ (by omega), hb.block k hk]
  · rcases hat with h | h
    · exact .inl h.symm
    · exact .inr ⟨g, rfl, by omega⟩

end Go.Proofs.YtbmlodikfmpfoaaDoor

/- A world in which one block, and new memory, may have changed. -/
import Derived.Test.YtppjeeklckdlgaaDoorPkA
namespace Go.Proofs.YtppjeeklckdlgaaDoor
open Go.RowKit

/-- From w to w' only new blocks and the block U have been written. -/
def Cx (U : Nat) (w w' : World) : Prop := w.grownBy w' (some U)

theorem Cx.refl (U : Nat) (w : World) : Cx U w w := World.grownBy.refl _ _
theorem Cx.of_below {U : Nat} {w w' : World} (h : Below w.heap.size w w') : Cx U w w' := ⟨h.os, h.tape, h.output, h.size, fun k hk _ => h.block k hk⟩
theorem Cx.size {U : Nat} {w w' : World} (h : Cx U w w') : w.heap.size ≤ w'.heap.size := World.grownBy.size h

theorem Cx.trans {U : Nat} {a b c : World} (h : Cx U a b) (k : Cx U b c) : Cx U a c :=
  ⟨k.os.trans h.os, k.tape.trans h.tape, k.output.trans h.output, Nat.le_trans h.size k.size, fun i hi hn => (k.block i (Nat.lt_of_lt_of_le hi h.size) hn).trans (h.block i hi hn)⟩

theorem Cx.alloc {U : Nat} {a b : World} (h : Cx U a b) (o : Obj) : Cx U a (b.alloc o) := h.trans (Cx.of_below ((Below.refl _ _).alloc (Nat.le_refl _) _))

theorem Cx.drew {U : Nat} {a b : World} (h : Cx U a b) : Cx U a b.drew := ⟨h.os, h.tape, h.output, h.size, h.block⟩

theorem Cx.drewN {U : Nat} {a b : World} (h : Cx U a b) (n : Nat) : Cx U a (b.drewN n) := ⟨h.os, h.tape, h.output, h.size, h.block⟩

/-- A store into a block that is new since a. -/
theorem Cx.setNew {U : Nat} {a b : World} (h : Cx U a b) {p : Addr} (hp : a.heap.size ≤ p.block) (u : Value) : Cx U a (b.setCell p u) :=
  ⟨h.os, h.tape, h.output, by rw [size_setCell]; exact h.size, fun i hi hn => (Below.heap_setCell b p u i (by omega)).trans (h.block i hi hn)⟩

theorem Cx.setCell {U : Nat} {a b : World} (h : Cx U a b) (o : Nat) (u : Value) : Cx U a (b.setCell ⟨U, o, none⟩ u) :=
  ⟨h.os, h.tape, h.output, by rw [size_setCell]; exact h.size, fun i hi hn => (Below.heap_setCell b ⟨U, o, none⟩ u i (fun e => hn (by rw [e]))).trans (h.block i hi hn)⟩

theorem Cx.blk {U : Nat} {w w' : World} (h : Cx U w w') {M : Nat} {o : Obj} (hM : w.heap[M]? = some o) (hn : M ≠ U) : w'.heap[M]? = some o :=
  (h.block M (lt_of_block hM) (fun e => hn (Option.some.inj e))).trans hM

theorem Cx.cell {U : Nat} {w w' : World} (h : Cx U w w') {b o : Nat} {u : Value} (hc : w.cell? ⟨b, o, none⟩ = some u) (hn : b ≠ U) : w'.cell? ⟨b, o, none⟩ = some u :=
  (World.cell?_of_block (w := w) (a := ⟨b, o, none⟩) (h.block b (World.block_lt_of_cell? _ _ hc) (fun e => hn (Option.some.inj e)))).trans hc

theorem Cx.frozen {U : Nat} {w w' : World} (h : Cx U w w') {b o : Nat} {c : Bool} (hc : w.frozen? ⟨b, o, none⟩ = c) (hlt : b < w.heap.size) (hn : b ≠ U) : w'.frozen? ⟨b, o, none⟩ = c :=
  (World.frozen?_of_block (w := w) (a := ⟨b, o, none⟩) (h.block b hlt (fun e => hn (Option.some.inj e)))).trans hc

theorem Cx.ty {U : Nat} {w w' : World} (h : Cx U w w') {t : Ty} {x : Value} {fp : List Nat} (ht : t.At w x fp) (hn : ∀ b ∈ fp, b ≠ U) : t.At w' x fp :=
  ht.congr fun b hb o => World.cell?_of_block (w := w) (a := ⟨b, o, none⟩) (h.block b (ht.lt b hb) (fun e => hn b hb (Option.some.inj e)))

theorem Cx.fresh {U B : Nat} {w w' : World} (h : Cx U w w') {f : List Nat} (hf : Fresh B w f) (hU : U < B) : Fresh B w' f :=
  ⟨hf.1, fun b hb => ⟨(hf.2 b hb).1, Nat.lt_of_lt_of_le (hf.2 b hb).2.1 h.size, fun o => h.frozen ((hf.2 b hb).2.2 o) (hf.2 b hb).2.1 (by have := (hf.2 b hb).1; omega)⟩⟩

theorem Cx.below {U B : Nat} {w w' : World} (h : Cx U w w') (hB : B ≤ w.heap.size) (hU : B ≤ U) : Below B w w' :=
  ⟨h.os, h.tape, h.output, h.size, fun k hk => h.block k (by omega) (fun e => by have := Option.some.inj e; omega)⟩

end Go.Proofs.YtppjeeklckdlgaaDoor

/- Draws: a source of numbers in a block of its own; worlds in which only that block and new ones are written. -/
import Derived.Test.YtffmpjcjmffdeaaDoorPkA
namespace Go.Proofs.YtffmpjcjmffdeaaDoor
open Go.RowKit

/-- From w to w' only new blocks and block M have been written. -/
structure Rw (M : Nat) (w w' : World) : Prop where
  below : Below M w w'
  size : w.heap.size ≤ w'.heap.size
  above : ∀ k, M < k → k < w.heap.size → w'.heap[k]? = w.heap[k]?

theorem Rw.refl (M : Nat) (w : World) : Rw M w w := ⟨Below.refl _ _, Nat.le_refl _, fun _ _ _ => rfl⟩

theorem Rw.of_below {M : Nat} {w w' : World} (h : Below w.heap.size w w') (hM : M < w.heap.size) : Rw M w w' := ⟨h.mono (Nat.le_of_lt hM), h.size, fun k _ hk => h.block k hk⟩

theorem Rw.trans {M : Nat} {a b c : World} (h : Rw M a b) (k : Rw M b c) : Rw M a c :=
  ⟨h.below.trans k.below, Nat.le_trans h.size k.size, fun i h1 h2 => (k.above i h1 (Nat.lt_of_lt_of_le h2 h.size)).trans (h.above i h1 h2)⟩

theorem Rw.set {M : Nat} {w w' : World} (h : Rw M w w') (o : Nat) (u : Value) : Rw M w (w'.setCell ⟨M, o, none⟩ u) :=
  ⟨h.below.setCell (p := ⟨M, o, none⟩) (Nat.le_refl _) u, by rw [size_setCell]; exact h.size, fun k h1 h2 => (Below.heap_setCell _ _ _ _ (by show k ≠ M; omega)).trans (h.above k h1 h2)⟩

theorem Rw.block {M : Nat} {w w' : World} (h : Rw M w w') {k : Nat} {o : Obj} (hk : w.heap[k]? = some o) (hM : k ≠ M) : w'.heap[k]? = some o := by
  rcases Nat.lt_or_gt_of_ne hM with hl | hl
  · exact (h.below.block k hl).trans hk
  · exact (h.above k hl (lt_of_block hk)).trans hk

theorem Rw.cell {M : Nat} {w w' : World} (h : Rw M w w') {a : Addr} {v : Value} (hc : w.cell? a = some v) (hM : a.block ≠ M) : w'.cell? a = some v := by
  have hl := World.block_lt_of_cell? _ _ hc
  have hb : w'.heap[a.block]? = w.heap[a.block]? := by
    rcases Nat.lt_or_gt_of_ne hM with h1 | h1
    · exact h.below.block _ h1
    · exact h.above _ h1 hl
  exact (World.cell?_of_block (w := w) (a := a) hb).trans hc

theorem Rw.at {M : Nat} {w w' : World} (h : Rw M w w') {t : Ty} {v : Value} {fp : List Nat} (ht : t.At w v fp) (hf : ∀ b ∈ fp, b ≠ M) : t.At w' v fp :=
  ht.congr fun b hb o => World.cell?_of_block (w := w) (a := ⟨b, o, none⟩) (by
    have hl := ht.lt b hb
    rcases Nat.lt_or_gt_of_ne (hf b hb) with h1 | h1
    · exact h.below.block _ h1
    · exact h.above _ h1 hl)

theorem Rw.fresh {M B : Nat} {w w' : World} (h : Rw M w w') {fp : List Nat} (hf : Fresh B w fp) (hM : M < B) : Fresh B w' fp :=
  ⟨hf.1, fun b hb => ⟨(hf.2 b hb).1, Nat.lt_of_lt_of_le (hf.2 b hb).2.1 h.size, fun o => (World.frozen?_of_block (w := w) (a := ⟨b, o, none⟩) (h.above b (by have := (hf.2 b hb).1; omega) (hf.2 b hb).2.1)).trans ((hf.2 b hb).2.2 o)⟩⟩

theorem Rw.grown {M : Nat} {w w' : World} (h : Rw M w w') : w.grownBy w' (some M) :=
  ⟨h.below.os, h.below.tape, h.below.output, h.size, fun k hk hne => by
    have hkM : k ≠ M := fun e => hne (by rw [e])
    rcases Nat.lt_or_gt_of_ne hkM with h1 | h1
    · exact h.below.block k h1
    · exact h.above k h1 hk⟩

theorem GrowT.rw {M B : Nat} {ds : List Ty} {v : Value} {fp : List Nat} {w w' : World} (h : GrowT B ds v fp w) (hM : M < B) (hr : Rw M w w') : GrowT B ds v fp w' := by
  obtain ⟨xs, ho, ha, hf, hn⟩ := h
  refine ⟨xs, ho.kept hr.grown ?_, ha.congr (fun b hm o => World.cell?_of_block (w := w) (a := ⟨b, o, none⟩) (hr.above b (by have := (hf.2 b hm).1; omega) (hf.2 b hm).2.1)), hr.fresh hf hM, hn⟩
  cases hv : v.ownBlock with
  | none => exact .inl rfl
  | some b =>
    right
    intro e
    have := (ho.lt b hv).1
    have := Option.some.inj e
    omega

theorem add_block (a : Addr) (i : Nat) : (a.add i).block = a.block := by
  cases i <;> simp [Addr.add]

/-- The bytes of a source lie ahead of its block. -/
def BytIn (w : World) (M : Nat) (a : Option Addr) (n : Nat) : Prop := ∀ i, i < n → ∃ ad x, a = some ad ∧ ad.block < M ∧ w.cell? (ad.add i) = some (.int .u8 x) ∧ 0 ≤ x ∧ x < 256

theorem BytIn.rw {M : Nat} {w w' : World} {a : Option Addr} {n : Nat} (h : BytIn w M a n) (hr : Rw M w w') : BytIn w' M a n := fun i hi => by
  obtain ⟨ad, x, h1, h2, h3, h4⟩ := h i hi
  exact ⟨ad, x, h1, h2, hr.cell h3 (by rw [add_block]; omega), h4⟩

/-- The source of block M has been asked at most q times. -/
def RdAt (M q : Nat) (w : World) : Prop := ∃ (a : Option Addr) (n cap p : Nat), w.heap[M]? = some (.cells #[.slice a n cap, .int .i64 p] 177 (0, 0)) ∧ BytIn w M a n ∧ n ≤ 2000 ∧ p ≤ q

theorem RdAt.rw {M q : Nat} {w w' : World} (h : RdAt M q w) (hb : Below w.heap.size w w') : RdAt M q w' := by
  obtain ⟨a, n, cap, p, h1, h2, h3⟩ := h
  have hl := lt_of_block h1
  exact ⟨a, n, cap, p, (hb.block M hl).trans h1, h2.rw (Rw.of_below hb hl), h3⟩

theorem RdAt.mono {M q q' : Nat} {w : World} (h : RdAt M q w) (hq : q ≤ q') : RdAt M q' w := by
  obtain ⟨a, n, cap, p, h1, h2, h3, h4⟩ := h
  exact ⟨a, n, cap, p, h1, h2, h3, Nat.le_trans h4 hq⟩

theorem RdAt.lt {M q : Nat} {w : World} (h : RdAt M q w) : M < w.heap.size := by
  obtain ⟨a, n, cap, p, h1, _⟩ := h
  exact lt_of_block h1

theorem RdAt.below1 {M q : Nat} {w w' : World} (h : RdAt M q w) (hb : Below (M + 1) w w') : RdAt M q w' := by
  obtain ⟨a, n, cap, p, h1, h2, h3⟩ := h
  refine ⟨a, n, cap, p, (hb.block M (by omega)).trans h1, fun i hi => ?_, h3⟩
  obtain ⟨ad, x, e1, e2, e3, e4⟩ := h2 i hi
  exact ⟨ad, x, e1, e2, (hb.cell (p := ad.add i) (by rw [add_block]; omega)).trans e3, e4⟩

theorem Rw.tail {M : Nat} {a b c : World} (h : Rw M a b) (k : Below a.heap.size b c) (hM : M < a.heap.size) : Rw M a c :=
  ⟨h.below.trans (k.mono (by omega)), Nat.le_trans h.size k.size, fun i h1 h2 => (k.block i h2).trans (h.above i h1 h2)⟩

theorem Rw.drew {M : Nat} {w : World} (hM : M < w.heap.size) : Rw M w w.drew := Rw.of_below (below_drew w) hM

/-- What a draw of a number says. -/
def PickX (M q : Nat) (w : World) (P : Int → Prop) (e : Ending) (w' : World) : Prop := ∃ i, e = .returned (.int .i64 i) ∧ P i ∧ RdAt M q w' ∧ Rw M w w'

/-- What a draw of a type says. -/
def DrawX (M q : Nat) (w : World) (P : Ty → Prop) (e : Ending) (w' : World) : Prop := ∃ t v fp, e = .returned v ∧ P t ∧ t.At w' v fp ∧ Fresh w.heap.size w' fp ∧ RdAt M q w' ∧ Rw M w w'

end Go.Proofs.YtffmpjcjmffdeaaDoor

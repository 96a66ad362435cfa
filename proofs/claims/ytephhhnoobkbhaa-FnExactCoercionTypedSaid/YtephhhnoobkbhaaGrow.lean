/- A slice of trees that grows by append, one element a round. -/
import Derived.Test.YtephhhnoobkbhaaPure
import Derived.Deep.AppendLies
import Derived.Deep.RegionLaw
namespace Go.Proofs.Ytephhhnoobkbhaa
open Go.RowKit

theorem Try.infoElem : (Try.prog.info? 28).map (fun i => (i.zero, i.size, i.bytes)) = some (some (.agg #[.int .i64 0, .slice none 0 0]), 2, 32) := by kernel_rfl
theorem Try.underElems : Try.prog.underlying 26 = some (.slice 28) := by kernel_rfl

/-- A row's cells, two by two, read as trees. -/
def AtXs (w : World) : List Ty → List Value → List Nat → Prop
  | [], xs, fp => xs = [] ∧ fp = []
  | t :: ts, xs, fp => ∃ x y r f g, xs = x :: y :: r ∧ fp = f ++ g ∧ t.At w (.agg #[x, y]) f ∧ AtXs w ts r g

theorem AtXs.snoc {w : World} : ∀ {ts : List Ty} {xs : List Value} {fp : List Nat} {t : Ty} {x y : Value} {f : List Nat}, AtXs w ts xs fp → t.At w (.agg #[x, y]) f → AtXs w (ts ++ [t]) (xs ++ [x, y]) (fp ++ f)
  | [], _, _, t, x, y, f, ⟨rfl, rfl⟩, ht => ⟨x, y, [], f, [], rfl, by simp, ht, rfl, rfl⟩
  | _ :: _, _, _, t, x, y, f, ⟨x0, y0, r, f0, g, rfl, rfl, h0, h⟩, ht => ⟨x0, y0, r ++ [x, y], f0, g ++ f, by simp, by simp, h0, AtXs.snoc h ht⟩

theorem AtXs.congr {w w' : World} : ∀ {ts : List Ty} {xs : List Value} {fp : List Nat}, AtXs w ts xs fp → (∀ b ∈ fp, ∀ o, w'.cell? ⟨b, o, none⟩ = w.cell? ⟨b, o, none⟩) → AtXs w' ts xs fp
  | [], _, _, h, _ => h
  | _ :: _, _, _, ⟨x0, y0, r, f0, g, rfl, rfl, h0, h⟩, hk => ⟨x0, y0, r, f0, g, rfl, rfl, h0.congr (fun b hb => hk b (by simp [hb])), AtXs.congr h (fun b hb => hk b (by simp [hb]))⟩

theorem AtXs.lt {w : World} : ∀ {ts : List Ty} {xs : List Value} {fp : List Nat}, AtXs w ts xs fp → ∀ b ∈ fp, b < w.heap.size
  | [], _, _, ⟨_, rfl⟩ => by simp
  | _ :: _, _, _, ⟨x0, y0, r, f0, g, rfl, rfl, h0, h⟩ => fun b hb => by
    rcases List.mem_append.1 hb with hb | hb
    · exact h0.lt b hb
    · exact AtXs.lt h b hb

theorem AtXs.atL {w : World} {b : Nat} : ∀ {ts : List Ty} {xs : List Value} {fp : List Nat} {o : Nat}, AtXs w ts xs fp → (∀ j u, xs[j]? = some u → w.cell? ⟨b, o + j, none⟩ = some u) → Ty.AtL w ts b o fp
  | [], _, _, o, ⟨_, rfl⟩, _ => by simp only [Ty.AtL]
  | _ :: _, _, _, o, ⟨x0, y0, r, f0, g, rfl, rfl, h0, h⟩, hc =>
    ⟨x0, y0, f0, g, by simpa using hc 0 x0 rfl, by simpa using hc 1 y0 rfl, h0, AtXs.atL h (fun j u hj => by
      have := hc (j + 2) u (by simpa using hj)
      rw [show o + 2 + j = o + (j + 2) by omega]
      exact this), rfl⟩

/-- The slice v of the call's own, from block B on, reads as the trees ds. -/
def GrowT (B : Nat) (ds : List Ty) (v : Value) (fp : List Nat) (w : World) : Prop :=
  ∃ xs, w.ownsRow B 28 2 v ds.length xs ∧ AtXs w ds xs fp ∧ Fresh B w fp ∧ ∀ b, v.ownBlock = some b → b ∉ fp

theorem GrowT.zero (B : Nat) (w : World) : GrowT B [] (.slice none 0 0) [] w :=
  ⟨[], World.ownsRow_nil w _ _ _, ⟨rfl, rfl⟩, Fresh.nil _ _, by simp⟩

theorem grown_of_below {w w' : World} (h : Below w.heap.size w w') (row : Option Nat) : w.grownBy w' row := ⟨h.os, h.tape, h.output, h.size, fun k hk _ => h.block k hk⟩

theorem GrowT.below {B : Nat} {ds : List Ty} {v : Value} {fp : List Nat} {w w' : World} (h : GrowT B ds v fp w) (hb : Below w.heap.size w w') : GrowT B ds v fp w' := by
  obtain ⟨xs, ho, ha, hf, hn⟩ := h
  refine ⟨xs, ho.kept (grown_of_below hb none) ?_, ha.congr (fun b hm o => hb.cell (p := ⟨b, o, none⟩) (ha.lt b hm)), hf.below hb, hn⟩
  cases v.ownBlock with
  | none => exact .inl rfl
  | some b => exact .inr (by simp)

theorem GrowT.own {B : Nat} {ds : List Ty} {v : Value} {fp : List Nat} {w : World} (h : GrowT B ds v fp w) : ∃ xs, w.ownsRow B 28 2 v ds.length xs := ⟨_, h.choose_spec.1⟩

theorem GrowT.setCell {B : Nat} {ds : List Ty} {v : Value} {fp : List Nat} {w : World} (h : GrowT B ds v fp w) {p : Addr} (hp : p.block < B) (u : Value) : GrowT B ds v fp (w.setCell p u) := by
  obtain ⟨xs, ho, ha, hf, hn⟩ := h
  have hne : ∀ b ∈ fp, b ≠ p.block := fun b hb e => by have := hf.ge b hb; omega
  exact ⟨xs, ownsRow_setCell_below ho hp u, ha.congr (fun b hm o => cell_setCell_ne w p u b o (hne b hm)), hf.setCell hne u, hn⟩

/-- One more element: the call that made it, the one-element slice of the append, the append. -/
theorem GrowT.step {B : Nat} {ds : List Ty} {v : Value} {fp f : List Nat} {xs : List Value} {w w1 w2 w3 : World} {t : Ty} {x y : Value} {g cap n : Nat}
    (ha : AtXs w1 ds xs fp) (hf : Fresh B w1 fp) (hn : ∀ b, v.ownBlock = some b → b ∉ fp) (hfp : ∀ b ∈ fp, b < w.heap.size) (hvb : ∀ b, v.ownBlock = some b → b < w.heap.size)
    (hB : B ≤ w.heap.size) (ht : t.At w1 (.agg #[x, y]) f) (hft : Fresh w.heap.size w1 f) (h2 : Below w1.heap.size w1 w2) (hg : w2.grownBy w3 v.ownBlock) (h3 : w3.ownsRow B 28 2 (.slice (some ⟨g, 0, none⟩) n cap) n (xs ++ [x, y]))
    (hnn : n = ds.length + 1) (hat : v.ownBlock = some g ∨ g = w2.heap.size) : GrowT B (ds ++ [t]) (.slice (some ⟨g, 0, none⟩) n cap) (fp ++ f) w3 := by
  subst hnn
  have hlt1 : ∀ b ∈ fp ++ f, b < w1.heap.size := fun b hb => by
    rcases List.mem_append.1 hb with hb | hb
    · exact (hf.2 b hb).2.1
    · exact (hft.2 b hb).2.1
  have hne : ∀ b ∈ fp ++ f, some b ≠ v.ownBlock := fun b hb e => by
    rcases List.mem_append.1 hb with hb | hb
    · exact hn b e.symm hb
    · have := hft.ge b hb
      have := hvb b e.symm
      omega
  have hk : ∀ b ∈ fp ++ f, w3.heap[b]? = w1.heap[b]? := fun b hb => by
    rw [hg.block b (Nat.lt_of_lt_of_le (hlt1 b hb) h2.size) (hne b hb), h2.block b (hlt1 b hb)]
  have hc : ∀ b ∈ fp ++ f, ∀ o, w3.cell? ⟨b, o, none⟩ = w1.cell? ⟨b, o, none⟩ := fun b hb o => World.cell?_of_block (w := w1) (a := ⟨b, o, none⟩) (hk b hb)
  have hz : ∀ b ∈ fp ++ f, ∀ o, w3.frozen? ⟨b, o, none⟩ = w1.frozen? ⟨b, o, none⟩ := fun b hb o => World.frozen?_of_block (w := w1) (a := ⟨b, o, none⟩) (hk b hb)
  refine ⟨xs ++ [x, y], by simpa using h3, (ha.snoc ht).congr hc, ⟨List.nodup_append.2 ⟨hf.1, hft.1, fun a ha b hb e => ?_⟩, fun b hb => ?_⟩, fun b hb hm => ?_⟩
  · have := hfp a ha
    have := hft.ge b hb
    omega
  · refine ⟨?_, Nat.lt_of_lt_of_le (hlt1 b hb) (Nat.le_trans h2.size hg.size), fun o => ?_⟩
    · rcases List.mem_append.1 hb with hb | hb
      · exact hf.ge b hb
      · exact Nat.le_trans hB (hft.ge b hb)
    · rw [hz b hb o]
      rcases List.mem_append.1 hb with hb | hb
      · exact (hf.2 b hb).2.2 o
      · exact (hft.2 b hb).2.2 o
  · obtain rfl : g = b := by simpa [Value.ownBlock] using hb
    rcases hat with hat | hat
    · exact hne g hm hat.symm
    · have := hlt1 g hm
      have := h2.size
      omega

theorem GrowT.done {B : Nat} {ds : List Ty} {v : Value} {fp : List Nat} {w : World} (h : GrowT B ds v fp w) (hm : ds.length ≤ maxLen) : ∃ fp', SlAt w ds v fp' ∧ Fresh B w fp' := by
  obtain ⟨xs, ho, ha, hf, hn⟩ := h
  rcases ho.2 with ⟨rfl, h0⟩ | ⟨g, cap, cur, rfl, hb, hg, hc, hmx, hsz, hx⟩
  · exact ⟨[], .inl ⟨List.length_eq_zero_iff.1 h0, rfl, none, 0, rfl⟩, Fresh.nil _ _⟩
  · by_cases h0 : ds.length = 0
    · exact ⟨[], .inl ⟨List.length_eq_zero_iff.1 h0, rfl, _, _, by rw [h0]⟩, Fresh.nil _ _⟩
    · have hcell : ∀ j u, xs[j]? = some u → w.cell? ⟨g, 0 + j, none⟩ = some u := fun j u hj => by
        rw [Nat.zero_add, cell_of_block hg, ← hj, ← hx, List.getElem?_take]
        have : j < xs.length := (List.getElem?_eq_some_iff.1 hj).1
        rw [if_pos (by rw [ho.1] at this; exact this)]
        simp
      refine ⟨g :: fp, .inr ⟨g, 0, cap, fp, rfl, by omega, hc, hm, ha.atL hcell, rfl⟩, List.nodup_cons.2 ⟨hn g rfl, hf.1⟩, fun b hb' => ?_⟩
      rcases List.mem_cons.1 hb' with rfl | hb'
      · exact ⟨hb, lt_of_block hg, fun o => frozen_of_block hg⟩
      · exact hf.2 b hb'

theorem GrowT.shape {B : Nat} {ds : List Ty} {v : Value} {fp : List Nat} {w : World} (h : GrowT B ds v fp w) : ∃ a cap, v = .slice a ds.length cap := by
  obtain ⟨xs, ho, _⟩ := h
  rcases ho.2 with ⟨rfl, h0⟩ | ⟨g, cap, cur, rfl, _⟩
  · exact ⟨none, 0, by rw [h0]⟩
  · exact ⟨_, _, rfl⟩

theorem GrowT.block {B : Nat} {ds : List Ty} {v : Value} {fp : List Nat} {w : World} (h : GrowT B ds v fp w) : (∀ b ∈ fp, b < w.heap.size) ∧ ∀ b, v.ownBlock = some b → b < w.heap.size := by
  obtain ⟨xs, ho, _, hf, _⟩ := h
  exact ⟨fun b hb => (hf.2 b hb).2.1, fun b hb => (ho.lt b hb).2⟩

theorem grow_keep {w2 w3 : World} {row : Option Nat} (hg : w2.grownBy w3 row) {M : Nat} {o : Obj} (h : w2.heap[M]? = some o) (hne : some M ≠ row) : w3.heap[M]? = some o :=
  (hg.block M (lt_of_block h) hne).trans h

theorem own_ne {w : World} {B n M : Nat} {T : TypeId} {v : Value} {xs : List Value} (ho : w.ownsRow B T 2 v n xs) (hM : M < B) : some M ≠ v.ownBlock := fun e => by
  have := (ho.lt M e.symm).1
  omega

/-- The cells of an argument's box and of the result, which nothing writes while a third block is built. -/
theorem boxes_out {w wr : World} {x y x' y' : Value} {T T' : TypeId} {o : Obj} (h : Below (w.heap.size + 1 + 1) (((w.alloc (Obj.cells #[x, y] T)).alloc (Obj.cells #[x', y'] T')).alloc o) wr) :
    wr.cell? ⟨w.heap.size, 0, none⟩ = some x ∧ wr.cell? ⟨w.heap.size, 1, none⟩ = some y ∧ wr.cell? ⟨w.heap.size + 1, 0, none⟩ = some x' ∧ wr.cell? ⟨w.heap.size + 1, 1, none⟩ = some y' ∧ ∀ o, wr.frozen? ⟨w.heap.size + 1, o, none⟩ = false := by
  have hs : (w.alloc (Obj.cells #[x, y] T)).heap.size = w.heap.size + 1 := by simp
  have h1 : wr.heap[w.heap.size + 1]? = some (Obj.cells #[x', y'] T') := by
    rw [h.block (w.heap.size + 1) (by omega), Below.heap_alloc _ _ _ (by simp), ← hs]
    exact alloc_new _ _
  have h0 : wr.heap[w.heap.size]? = some (Obj.cells #[x, y] T) := by
    rw [h.block w.heap.size (by omega), Below.heap_alloc _ _ _ (by simp; omega), Below.heap_alloc _ _ _ (by simp)]
    exact alloc_new _ _
  exact ⟨by rw [cell_of_block h0]; rfl, by rw [cell_of_block h0]; rfl, by rw [cell_of_block h1]; rfl, by rw [cell_of_block h1]; rfl, fun o => frozen_of_block h1⟩

end Go.Proofs.Ytephhhnoobkbhaa

/- A slice of coercions that grows by append, one element a round. -/
import Derived.Test.YtgekfnodmgkdaaaCo
import Derived.Test.YtgekfnodmgkdaaaPkA
namespace Go.Proofs.Ytgekfnodmgkdaaa
open Go.RowKit

theorem Try.infoElemC : (Try.prog.info? 44).map (fun i => (i.zero, i.size, i.bytes)) = some (some (.agg #[.int .i64 0, .int .i64 0, .int .i64 0, .slice none 0 0]), 4, 48) := by kernel_rfl
theorem Try.underElemsC : Try.prog.underlying 42 = some (.slice 44) := by kernel_rfl

/-- A row's cells, four by four, read as trees. -/
def AtCs (w : World) : List Co → List Value → List Nat → Prop
  | [], xs, fp => xs = [] ∧ fp = []
  | t :: ts, xs, fp => ∃ x y z u r f g, xs = x :: y :: z :: u :: r ∧ fp = f ++ g ∧ t.At w (.agg #[x, y, z, u]) f ∧ AtCs w ts r g

theorem AtCs.snoc {w : World} : ∀ {ts : List Co} {xs : List Value} {fp : List Nat} {t : Co} {x y z u : Value} {f : List Nat}, AtCs w ts xs fp → t.At w (.agg #[x, y, z, u]) f → AtCs w (ts ++ [t]) (xs ++ [x, y, z, u]) (fp ++ f)
  | [], _, _, t, x, y, z, u, f, ⟨rfl, rfl⟩, ht => ⟨x, y, z, u, [], f, [], rfl, by simp, ht, rfl, rfl⟩
  | _ :: _, _, _, t, x, y, z, u, f, ⟨x0, y0, z0, u0, r, f0, g, rfl, rfl, h0, h⟩, ht => ⟨x0, y0, z0, u0, r ++ [x, y, z, u], f0, g ++ f, by simp, by simp, h0, AtCs.snoc h ht⟩

theorem AtCs.congr {w w' : World} : ∀ {ts : List Co} {xs : List Value} {fp : List Nat}, AtCs w ts xs fp → (∀ b ∈ fp, ∀ o, w'.cell? ⟨b, o, none⟩ = w.cell? ⟨b, o, none⟩) → AtCs w' ts xs fp
  | [], _, _, h, _ => h
  | _ :: _, _, _, ⟨x0, y0, z0, u0, r, f0, g, rfl, rfl, h0, h⟩, hk => ⟨x0, y0, z0, u0, r, f0, g, rfl, rfl, h0.congr (fun b hb => hk b (by simp [hb])), AtCs.congr h (fun b hb => hk b (by simp [hb]))⟩

theorem AtCs.lt {w : World} : ∀ {ts : List Co} {xs : List Value} {fp : List Nat}, AtCs w ts xs fp → ∀ b ∈ fp, b < w.heap.size
  | [], _, _, ⟨_, rfl⟩ => by simp
  | _ :: _, _, _, ⟨x0, y0, z0, u0, r, f0, g, rfl, rfl, h0, h⟩ => fun b hb => by
    rcases List.mem_append.1 hb with hb | hb
    · exact h0.lt b hb
    · exact AtCs.lt h b hb

theorem AtCs.atL {w : World} {b : Nat} : ∀ {ts : List Co} {xs : List Value} {fp : List Nat} {o : Nat}, AtCs w ts xs fp → (∀ j u, xs[j]? = some u → w.cell? ⟨b, o + j, none⟩ = some u) → Co.AtL w ts b o fp
  | [], _, _, o, ⟨_, rfl⟩, _ => by simp only [Co.AtL]
  | _ :: _, _, _, o, ⟨x0, y0, z0, u0, r, f0, g, rfl, rfl, h0, h⟩, hc =>
    ⟨x0, y0, z0, u0, f0, g, by simpa using hc 0 x0 rfl, by simpa using hc 1 y0 rfl, by simpa using hc 2 z0 rfl, by simpa using hc 3 u0 rfl, h0, AtCs.atL h (fun j u hj => by
      have := hc (j + 4) u (by simpa using hj)
      rw [show o + 4 + j = o + (j + 4) by omega]
      exact this), rfl⟩

/-- The slice v of the call's own, from block B on, reads as the trees ds. -/
def GrowC (B : Nat) (ds : List Co) (v : Value) (fp : List Nat) (w : World) : Prop :=
  ∃ xs, w.ownsRow B 44 4 v ds.length xs ∧ AtCs w ds xs fp ∧ Fresh B w fp ∧ ∀ b, v.ownBlock = some b → b ∉ fp

theorem GrowC.zero (B : Nat) (w : World) : GrowC B [] (.slice none 0 0) [] w :=
  ⟨[], World.ownsRow_nil w _ _ _, ⟨rfl, rfl⟩, Fresh.nil _ _, by simp⟩

theorem GrowC.below {B : Nat} {ds : List Co} {v : Value} {fp : List Nat} {w w' : World} (h : GrowC B ds v fp w) (hb : Below w.heap.size w w') : GrowC B ds v fp w' := by
  obtain ⟨xs, ho, ha, hf, hn⟩ := h
  refine ⟨xs, ho.kept (grown_of_below hb none) ?_, ha.congr (fun b hm o => hb.cell (p := ⟨b, o, none⟩) (ha.lt b hm)), hf.below hb, hn⟩
  cases v.ownBlock with
  | none => exact .inl rfl
  | some b => exact .inr (by simp)

theorem GrowC.own {B : Nat} {ds : List Co} {v : Value} {fp : List Nat} {w : World} (h : GrowC B ds v fp w) : ∃ xs, w.ownsRow B 44 4 v ds.length xs := ⟨_, h.choose_spec.1⟩

theorem GrowC.setCell {B : Nat} {ds : List Co} {v : Value} {fp : List Nat} {w : World} (h : GrowC B ds v fp w) {p : Addr} (hp : p.block < B) (u : Value) : GrowC B ds v fp (w.setCell p u) := by
  obtain ⟨xs, ho, ha, hf, hn⟩ := h
  have hne : ∀ b ∈ fp, b ≠ p.block := fun b hb e => by have := hf.ge b hb; omega
  exact ⟨xs, ownsRow_setCell_below ho hp u, ha.congr (fun b hm o => cell_setCell_ne w p u b o (hne b hm)), hf.setCell hne u, hn⟩

/-- One more element: the call that made it, the one-element slice of the append, the append. -/
theorem GrowC.step {B : Nat} {ds : List Co} {v : Value} {fp f : List Nat} {xs : List Value} {w w1 w2 w3 : World} {t : Co} {x y z u : Value} {g cap n : Nat}
    (ha : AtCs w1 ds xs fp) (hf : Fresh B w1 fp) (hn : ∀ b, v.ownBlock = some b → b ∉ fp) (hfp : ∀ b ∈ fp, b < w.heap.size) (hvb : ∀ b, v.ownBlock = some b → b < w.heap.size)
    (hB : B ≤ w.heap.size) (ht : t.At w1 (.agg #[x, y, z, u]) f) (hft : Fresh w.heap.size w1 f) (h2 : Below w1.heap.size w1 w2) (hg : w2.grownBy w3 v.ownBlock) (h3 : w3.ownsRow B 44 4 (.slice (some ⟨g, 0, none⟩) n cap) n (xs ++ [x, y, z, u]))
    (hnn : n = ds.length + 1) (hat : v.ownBlock = some g ∨ g = w2.heap.size) : GrowC B (ds ++ [t]) (.slice (some ⟨g, 0, none⟩) n cap) (fp ++ f) w3 := by
  subst hnn
  have hlt1 : ∀ b ∈ fp ++ f, b < w1.heap.size := fun b hb => by
    rcases List.mem_append.1 hb with hb | hb
    · exact (hf.2 b hb).2.1
    · exact (hft.2 b hb).2.1
  have hne : ∀ b ∈ fp ++ f, some b ≠ v.ownBlock := fun b hb e => by
    rcases List.mem_append.1 hb with hb | hb
    · exact hn b e.symm hb
    · have := hft.ge b hb
      have := hvb b e.symm
      omega
  have hk : ∀ b ∈ fp ++ f, w3.heap[b]? = w1.heap[b]? := fun b hb => by
    rw [hg.block b (Nat.lt_of_lt_of_le (hlt1 b hb) h2.size) (hne b hb), h2.block b (hlt1 b hb)]
  have hc : ∀ b ∈ fp ++ f, ∀ o, w3.cell? ⟨b, o, none⟩ = w1.cell? ⟨b, o, none⟩ := fun b hb o => World.cell?_of_block (w := w1) (a := ⟨b, o, none⟩) (hk b hb)
  have hz : ∀ b ∈ fp ++ f, ∀ o, w3.frozen? ⟨b, o, none⟩ = w1.frozen? ⟨b, o, none⟩ := fun b hb o => World.frozen?_of_block (w := w1) (a := ⟨b, o, none⟩) (hk b hb)
  refine ⟨xs ++ [x, y, z, u], by simpa using h3, (ha.snoc ht).congr hc, ⟨List.nodup_append.2 ⟨hf.1, hft.1, fun a ha b hb e => ?_⟩, fun b hb => ?_⟩, fun b hb hm => ?_⟩
  · have := hfp a ha
    have := hft.ge b hb
    omega
  · refine ⟨?_, Nat.lt_of_lt_of_le (hlt1 b hb) (Nat.le_trans h2.size hg.size), fun o => ?_⟩
    · rcases List.mem_append.1 hb with hb | hb
      · exact hf.ge b hb
      · exact Nat.le_trans hB (hft.ge b hb)
    · rw [hz b hb o]
      rcases List.mem_append.1 hb with hb | hb
      · exact (hf.2 b hb).2.2 o
      · exact (hft.2 b hb).2.2 o
  · obtain rfl : g = b := by simpa [Value.ownBlock] using hb
    rcases hat with hat | hat
    · exact hne g hm hat.symm
    · have := hlt1 g hm
      have := h2.size
      omega

theorem GrowC.done {B : Nat} {ds : List Co} {v : Value} {fp : List Nat} {w : World} (h : GrowC B ds v fp w) (hm : ds.length ≤ maxLen) : ∃ fp', CSl w ds v fp' ∧ Fresh B w fp' := by
  obtain ⟨xs, ho, ha, hf, hn⟩ := h
  rcases ho.2 with ⟨rfl, h0⟩ | ⟨g, cap, cur, rfl, hb, hg, hc, hmx, hsz, hx⟩
  · exact ⟨[], .inl ⟨List.length_eq_zero_iff.1 h0, rfl, none, 0, rfl⟩, Fresh.nil _ _⟩
  · by_cases h0 : ds.length = 0
    · exact ⟨[], .inl ⟨List.length_eq_zero_iff.1 h0, rfl, _, _, by rw [h0]⟩, Fresh.nil _ _⟩
    · have hcell : ∀ j u, xs[j]? = some u → w.cell? ⟨g, 0 + j, none⟩ = some u := fun j u hj => by
        rw [Nat.zero_add, cell_of_block hg, ← hj, ← hx, List.getElem?_take]
        have : j < xs.length := (List.getElem?_eq_some_iff.1 hj).1
        rw [if_pos (by rw [ho.1] at this; exact this)]
        simp
      refine ⟨g :: fp, .inr ⟨g, 0, cap, fp, rfl, by omega, hc, hm, ha.atL hcell, rfl⟩, List.nodup_cons.2 ⟨hn g rfl, hf.1⟩, fun b hb' => ?_⟩
      rcases List.mem_cons.1 hb' with rfl | hb'
      · exact ⟨hb, lt_of_block hg, fun o => frozen_of_block hg⟩
      · exact hf.2 b hb'

theorem GrowC.shape {B : Nat} {ds : List Co} {v : Value} {fp : List Nat} {w : World} (h : GrowC B ds v fp w) : ∃ a cap, v = .slice a ds.length cap := by
  obtain ⟨xs, ho, _⟩ := h
  rcases ho.2 with ⟨rfl, h0⟩ | ⟨g, cap, cur, rfl, _⟩
  · exact ⟨none, 0, by rw [h0]⟩
  · exact ⟨_, _, rfl⟩

theorem GrowC.block {B : Nat} {ds : List Co} {v : Value} {fp : List Nat} {w : World} (h : GrowC B ds v fp w) : (∀ b ∈ fp, b < w.heap.size) ∧ ∀ b, v.ownBlock = some b → b < w.heap.size := by
  obtain ⟨xs, ho, _, hf, _⟩ := h
  exact ⟨fun b hb => (hf.2 b hb).2.1, fun b hb => (ho.lt b hb).2⟩

theorem own_ne4 {w : World} {B n M : Nat} {T : TypeId} {v : Value} {xs : List Value} (ho : w.ownsRow B T 4 v n xs) (hM : M < B) : some M ≠ v.ownBlock := fun e => by
  have := (ho.lt M e.symm).1
  omega

/-- The cells of an argument's box and of the result, which nothing writes while a third block is built. -/
theorem boxes_outC {w wr : World} {x y z u x' y' z' u' : Value} {T T' : TypeId} {o : Obj} (h : Below (w.heap.size + 1 + 1) (((w.alloc (Obj.cells #[x, y, z, u] T)).alloc (Obj.cells #[x', y', z', u'] T')).alloc o) wr) :
    wr.heap[w.heap.size]? = some (Obj.cells #[x, y, z, u] T) ∧ wr.heap[w.heap.size + 1]? = some (Obj.cells #[x', y', z', u'] T') := by
  have hs : (w.alloc (Obj.cells #[x, y, z, u] T)).heap.size = w.heap.size + 1 := by simp
  refine ⟨?_, ?_⟩
  · rw [h.block w.heap.size (by omega), Below.heap_alloc _ _ _ (by simp; omega), Below.heap_alloc _ _ _ (by simp)]
    exact alloc_new _ _
  · rw [h.block (w.heap.size + 1) (by omega), Below.heap_alloc _ _ _ (by simp), ← hs]
    exact alloc_new _ _

end Go.Proofs.Ytgekfnodmgkdaaa

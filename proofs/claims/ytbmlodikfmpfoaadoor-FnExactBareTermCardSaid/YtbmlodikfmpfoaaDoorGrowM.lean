/- A slice of terms that grows by append, one element a round. -/
import Derived.Test.YtbmlodikfmpfoaaDoorGrow
import Derived.Test.YtbmlodikfmpfoaaDoorMTo
namespace Go.Proofs.YtbmlodikfmpfoaaDoor
open Go.RowKit

theorem Tryd.underElemsM : Tryd.prog.underlying 32 = some (.slice 34) := by kernel_rfl

/-- A row's cells, nine by nine, read as terms. -/
def AtXM (w : World) : List Tm → List Value → List Nat → Prop
  | [], xs, fp => xs = [] ∧ fp = []
  | t :: ts, xs, fp => ∃ L r f g, L.length = 9 ∧ xs = L ++ r ∧ fp = f ++ g ∧ t.At w (.agg L.toArray) f ∧ AtXM w ts r g

theorem AtXM.snoc {w : World} : ∀ {ts : List Tm} {xs : List Value} {fp : List Nat} {t : Tm} {L : List Value} {f : List Nat}, AtXM w ts xs fp → L.length = 9 → t.At w (.agg L.toArray) f → AtXM w (ts ++ [t]) (xs ++ L) (fp ++ f)
  | [], _, _, t, L, f, ⟨rfl, rfl⟩, hL, ht => ⟨L, [], f, [], hL, by simp, by simp, ht, rfl, rfl⟩
  | _ :: _, _, _, t, L, f, ⟨L0, r, f0, g, h9, rfl, rfl, h0, h⟩, hL, ht => ⟨L0, r ++ L, f0, g ++ f, h9, by simp, by simp, h0, AtXM.snoc h hL ht⟩

theorem AtXM.congr {w w' : World} : ∀ {ts : List Tm} {xs : List Value} {fp : List Nat}, AtXM w ts xs fp → (∀ b ∈ fp, ∀ o, w'.cell? ⟨b, o, none⟩ = w.cell? ⟨b, o, none⟩) → AtXM w' ts xs fp
  | [], _, _, h, _ => h
  | _ :: _, _, _, ⟨L0, r, f0, g, h9, rfl, rfl, h0, h⟩, hk => ⟨L0, r, f0, g, h9, rfl, rfl, h0.congr (fun b hb => hk b (by simp [hb])), AtXM.congr h (fun b hb => hk b (by simp [hb]))⟩

theorem AtXM.lt {w : World} : ∀ {ts : List Tm} {xs : List Value} {fp : List Nat}, AtXM w ts xs fp → ∀ b ∈ fp, b < w.heap.size
  | [], _, _, ⟨_, rfl⟩ => by simp
  | _ :: _, _, _, ⟨L0, r, f0, g, h9, rfl, rfl, h0, h⟩ => fun b hb => by
    rcases List.mem_append.1 hb with hb | hb
    · exact h0.lt b hb
    · exact AtXM.lt h b hb

theorem AtXM.atL {w : World} {b : Nat} : ∀ {ts : List Tm} {xs : List Value} {fp : List Nat} {o : Nat}, AtXM w ts xs fp → (∀ j u, xs[j]? = some u → w.cell? ⟨b, o + j, none⟩ = some u) → Tm.AtL w ts b o fp
  | [], _, _, o, ⟨_, rfl⟩, _ => by simp only [Tm.AtL]
  | _ :: _, _, _, o, ⟨L0, r, f0, g, h9, rfl, rfl, h0, h⟩, hc => by
    simp only [Tm.AtL]
    refine ⟨L0.toArray, f0, g, fun i hi => ?_, h0, AtXM.atL h (fun j u hj => ?_), rfl⟩
    · have hi' : i < L0.length := by omega
      rw [hc i L0[i] (by rw [List.getElem?_append_left hi', List.getElem?_eq_getElem hi'])]
      simp [hi']
    · have := hc (j + 9) u (by rw [List.getElem?_append_right (by omega), show j + 9 - L0.length = j by omega]; exact hj)
      rw [show o + 9 + j = o + (j + 9) by omega]
      exact this

/-- The slice v of the call's own, from block B on, reads as the trees ds. -/
def GrowM (B : Nat) (ds : List Tm) (v : Value) (fp : List Nat) (w : World) : Prop :=
  ∃ xs, w.ownsRow B 34 9 v ds.length xs ∧ AtXM w ds xs fp ∧ Fresh B w fp ∧ ∀ b, v.ownBlock = some b → b ∉ fp

theorem GrowM.zero (B : Nat) (w : World) : GrowM B [] (.slice none 0 0) [] w :=
  ⟨[], World.ownsRow_nil w _ _ _, ⟨rfl, rfl⟩, Fresh.nil _ _, by simp⟩

theorem GrowM.below {B : Nat} {ds : List Tm} {v : Value} {fp : List Nat} {w w' : World} (h : GrowM B ds v fp w) (hb : Below w.heap.size w w') : GrowM B ds v fp w' := by
  obtain ⟨xs, ho, ha, hf, hn⟩ := h
  refine ⟨xs, ho.kept (grown_of_below hb none) ?_, ha.congr (fun b hm o => hb.cell (p := ⟨b, o, none⟩) (ha.lt b hm)), hf.below hb, hn⟩
  cases v.ownBlock with
  | none => exact .inl rfl
  | some b => exact .inr (by simp)

theorem GrowM.own {B : Nat} {ds : List Tm} {v : Value} {fp : List Nat} {w : World} (h : GrowM B ds v fp w) : ∃ xs, w.ownsRow B 34 9 v ds.length xs := ⟨_, h.choose_spec.1⟩

theorem GrowM.setCell {B : Nat} {ds : List Tm} {v : Value} {fp : List Nat} {w : World} (h : GrowM B ds v fp w) {p : Addr} (hp : p.block < B) (u : Value) : GrowM B ds v fp (w.setCell p u) := by
  obtain ⟨xs, ho, ha, hf, hn⟩ := h
  have hne : ∀ b ∈ fp, b ≠ p.block := fun b hb e => by have := hf.ge b hb; omega
  exact ⟨xs, ownsRow_setCell_below ho hp u, ha.congr (fun b hm o => cell_setCell_ne w p u b o (hne b hm)), hf.setCell hne u, hn⟩

/-- One more element: the call that made it, the one-element slice of the append, the append. -/
theorem GrowM.step {B : Nat} {ds : List Tm} {v : Value} {fp f : List Nat} {xs : List Value} {w w1 w2 w3 : World} {t : Tm} {L : List Value} {g cap n : Nat}
    (ha : AtXM w1 ds xs fp) (hf : Fresh B w1 fp) (hn : ∀ b, v.ownBlock = some b → b ∉ fp) (hfp : ∀ b ∈ fp, b < w.heap.size) (hvb : ∀ b, v.ownBlock = some b → b < w.heap.size)
    (hB : B ≤ w.heap.size) (hL : L.length = 9) (ht : t.At w1 (.agg L.toArray) f) (hft : Fresh w.heap.size w1 f) (h2 : Below w1.heap.size w1 w2) (hg : w2.grownBy w3 v.ownBlock) (h3 : w3.ownsRow B 34 9 (.slice (some ⟨g, 0, none⟩) n cap) n (xs ++ L))
    (hnn : n = ds.length + 1) (hat : v.ownBlock = some g ∨ g = w2.heap.size) : GrowM B (ds ++ [t]) (.slice (some ⟨g, 0, none⟩) n cap) (fp ++ f) w3 := by
  subst hnn
  have hlt1 : ∀ b ∈ fp ++ f, b < w1.heap.size := fun b hb => by
    rcases List.mem_append.1 hb with hb | hb
    · exact (hf.2 b hb).2.1
    · exact (hft.2 b hb).2.1
  have hne : ∀ b ∈ fp ++ f, some b ≠ v.ownBlock := fun b hb e => by
    rcases List.mem_append.1 hb with hb | hb
    · exact hn b e.symm hb
    · have := hft.ge b hb
      have := hvb b e.symm
      omega
  have hk : ∀ b ∈ fp ++ f, w3.heap[b]? = w1.heap[b]? := fun b hb => by
    rw [hg.block b (Nat.lt_of_lt_of_le (hlt1 b hb) h2.size) (hne b hb), h2.block b (hlt1 b hb)]
  have hc : ∀ b ∈ fp ++ f, ∀ o, w3.cell? ⟨b, o, none⟩ = w1.cell? ⟨b, o, none⟩ := fun b hb o => World.cell?_of_block (w := w1) (a := ⟨b, o, none⟩) (hk b hb)
  have hz : ∀ b ∈ fp ++ f, ∀ o, w3.frozen? ⟨b, o, none⟩ = w1.frozen? ⟨b, o, none⟩ := fun b hb o => World.frozen?_of_block (w := w1) (a := ⟨b, o, none⟩) (hk b hb)
  refine ⟨xs ++ L, by simpa using h3, (ha.snoc hL ht).congr hc, ⟨List.nodup_append.2 ⟨hf.1, hft.1, fun a ha b hb e => ?_⟩, fun b hb => ?_⟩, fun b hb hm => ?_⟩
  · have := hfp a ha
    have := hft.ge b hb
    omega
  · refine ⟨?_, Nat.lt_of_lt_of_le (hlt1 b hb) (Nat.le_trans h2.size hg.size), fun o => ?_⟩
    · rcases List.mem_append.1 hb with hb | hb
      · exact hf.ge b hb
      · exact Nat.le_trans hB (hft.ge b hb)
    · rw [hz b hb o]
      rcases List.mem_append.1 hb with hb | hb
      · exact (hf.2 b hb).2.2 o
      · exact (hft.2 b hb).2.2 o
  · obtain rfl : g = b := by simpa [Value.ownBlock] using hb
    rcases hat with hat | hat
    · exact hne g hm hat.symm
    · have := hlt1 g hm
      have := h2.size
      omega

theorem GrowM.done {B : Nat} {ds : List Tm} {v : Value} {fp : List Nat} {w : World} (h : GrowM B ds v fp w) (hm : ds.length ≤ maxLen) : ∃ fp', SmAt w ds v fp' ∧ Fresh B w fp' := by
  obtain ⟨xs, ho, ha, hf, hn⟩ := h
  rcases ho.2 with ⟨rfl, h0⟩ | ⟨g, cap, cur, rfl, hb, hg, hc, hmx, hsz, hx⟩
  · exact ⟨[], .inl ⟨List.length_eq_zero_iff.1 h0, rfl, none, 0, rfl⟩, Fresh.nil _ _⟩
  · by_cases h0 : ds.length = 0
    · exact ⟨[], .inl ⟨List.length_eq_zero_iff.1 h0, rfl, _, _, by rw [h0]⟩, Fresh.nil _ _⟩
    · have hcell : ∀ j u, xs[j]? = some u → w.cell? ⟨g, 0 + j, none⟩ = some u := fun j u hj => by
        rw [Nat.zero_add, cell_of_block hg, ← hj, ← hx, List.getElem?_take]
        have : j < xs.length := (List.getElem?_eq_some_iff.1 hj).1
        rw [if_pos (by rw [ho.1] at this; exact this)]
        simp
      refine ⟨g :: fp, .inr ⟨g, 0, cap, fp, rfl, by omega, hc, hm, ha.atL hcell, rfl⟩, List.nodup_cons.2 ⟨hn g rfl, hf.1⟩, fun b hb' => ?_⟩
      rcases List.mem_cons.1 hb' with rfl | hb'
      · exact ⟨hb, lt_of_block hg, fun o => frozen_of_block hg⟩
      · exact hf.2 b hb'

theorem GrowM.shape {B : Nat} {ds : List Tm} {v : Value} {fp : List Nat} {w : World} (h : GrowM B ds v fp w) : ∃ a cap, v = .slice a ds.length cap := by
  obtain ⟨xs, ho, _⟩ := h
  rcases ho.2 with ⟨rfl, h0⟩ | ⟨g, cap, cur, rfl, _⟩
  · exact ⟨none, 0, by rw [h0]⟩
  · exact ⟨_, _, rfl⟩

theorem GrowM.block {B : Nat} {ds : List Tm} {v : Value} {fp : List Nat} {w : World} (h : GrowM B ds v fp w) : (∀ b ∈ fp, b < w.heap.size) ∧ ∀ b, v.ownBlock = some b → b < w.heap.size := by
  obtain ⟨xs, ho, _, hf, _⟩ := h
  exact ⟨fun b hb => (hf.2 b hb).2.1, fun b hb => (ho.lt b hb).2⟩


end Go.Proofs.YtbmlodikfmpfoaaDoor

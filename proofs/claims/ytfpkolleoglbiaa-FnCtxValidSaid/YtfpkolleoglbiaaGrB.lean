/- A slice of bindings that grows by append, one element a round; what a source does to it. -/
import Derived.Test.YtfpkolleoglbiaaBdP
import Derived.Test.YtfpkolleoglbiaaDr0
import Derived.Deep.AppendLies
import Derived.Deep.RegionLaw
namespace Go.Proofs.Ytfpkolleoglbiaa
open Go.RowKit

theorem Try.infoBd : (Try.prog.info? 34).map (fun i => (i.zero, i.size, i.bytes)) = some (some (.agg #[.string ByteArray.empty, .int .i64 0, .slice none 0 0]), 3, 48) := by kernel_rfl
theorem Try.underBds : Try.prog.underlying 23 = some (.slice 34) := by kernel_rfl

/-- A row's cells, three by three, read as bindings. -/
def AtYs (w : World) : List Bd → List Value → List Nat → Prop
  | [], xs, fp => xs = [] ∧ fp = []
  | t :: ts, xs, fp => ∃ x y z r f g, xs = x :: y :: z :: r ∧ fp = f ++ g ∧ BdAt w t (.agg #[x, y, z]) f ∧ AtYs w ts r g

theorem AtYs.snoc {w : World} : ∀ {ts : List Bd} {xs : List Value} {fp : List Nat} {t : Bd} {x y z : Value} {f : List Nat}, AtYs w ts xs fp → BdAt w t (.agg #[x, y, z]) f → AtYs w (ts ++ [t]) (xs ++ [x, y, z]) (fp ++ f)
  | [], _, _, t, x, y, z, f, ⟨rfl, rfl⟩, ht => ⟨x, y, z, [], f, [], rfl, by simp, ht, rfl, rfl⟩
  | _ :: _, _, _, t, x, y, z, f, ⟨x0, y0, z0, r, f0, g, rfl, rfl, h0, h⟩, ht => ⟨x0, y0, z0, r ++ [x, y, z], f0, g ++ f, by simp, by simp, h0, AtYs.snoc h ht⟩

theorem AtYs.congr {w w' : World} : ∀ {ts : List Bd} {xs : List Value} {fp : List Nat}, AtYs w ts xs fp → (∀ b ∈ fp, ∀ o, w'.cell? ⟨b, o, none⟩ = w.cell? ⟨b, o, none⟩) → AtYs w' ts xs fp
  | [], _, _, h, _ => h
  | _ :: _, _, _, ⟨x0, y0, z0, r, f0, g, rfl, rfl, h0, h⟩, hk => ⟨x0, y0, z0, r, f0, g, rfl, rfl, h0.congr (fun b hb => hk b (by simp [hb])), AtYs.congr h (fun b hb => hk b (by simp [hb]))⟩

theorem AtYs.lt {w : World} : ∀ {ts : List Bd} {xs : List Value} {fp : List Nat}, AtYs w ts xs fp → ∀ b ∈ fp, b < w.heap.size
  | [], _, _, ⟨_, rfl⟩ => by simp
  | _ :: _, _, _, ⟨x0, y0, z0, r, f0, g, rfl, rfl, h0, h⟩ => fun b hb => by
    rcases List.mem_append.1 hb with hb | hb
    · exact h0.lt b hb
    · exact AtYs.lt h b hb

theorem AtYs.atL {w : World} {b : Nat} : ∀ {ts : List Bd} {xs : List Value} {fp : List Nat} {o : Nat}, AtYs w ts xs fp → (∀ j u, xs[j]? = some u → w.cell? ⟨b, o + j, none⟩ = some u) → BdL w ts b o fp
  | [], _, _, o, ⟨_, rfl⟩, _ => by simp only [BdL]
  | _ :: _, _, _, o, ⟨x0, y0, z0, r, f0, g, rfl, rfl, h0, h⟩, hc =>
    ⟨x0, y0, z0, f0, g, by simpa using hc 0 x0 rfl, by simpa using hc 1 y0 rfl, by simpa using hc 2 z0 rfl, h0, AtYs.atL h (fun j u hj => by
      have := hc (j + 3) u (by simpa using hj)
      rw [show o + 3 + j = o + (j + 3) by omega]
      exact this), rfl⟩

/-- The slice v of the call's own, from block B on, reads as the bindings ds. -/
def GrowB (B : Nat) (ds : List Bd) (v : Value) (fp : List Nat) (w : World) : Prop :=
  ∃ xs, w.ownsRow B 34 3 v ds.length xs ∧ AtYs w ds xs fp ∧ Fresh B w fp ∧ ∀ b, v.ownBlock = some b → b ∉ fp

theorem GrowB.zero (B : Nat) (w : World) : GrowB B [] (.slice none 0 0) [] w :=
  ⟨[], World.ownsRow_nil w _ _ _, ⟨rfl, rfl⟩, Fresh.nil _ _, by simp⟩

theorem GrowB.new {B : Nat} {w : World} (h : B ≤ w.heap.size) : GrowB B [] (.slice (some ⟨w.heap.size, 0, none⟩) 0 0) [] (w.alloc (Obj.cells #[] 34)) :=
  ⟨[], ⟨rfl, .inr ⟨w.heap.size, 0, #[], rfl, h, alloc_new _ _, Nat.le_refl _, Nat.zero_le _, rfl, rfl⟩⟩, ⟨rfl, rfl⟩, Fresh.nil _ _, by simp⟩

theorem GrowB.below {B : Nat} {ds : List Bd} {v : Value} {fp : List Nat} {w w' : World} (h : GrowB B ds v fp w) (hb : Below w.heap.size w w') : GrowB B ds v fp w' := by
  obtain ⟨xs, ho, ha, hf, hn⟩ := h
  refine ⟨xs, ho.kept (grown_of_below hb none) ?_, ha.congr (fun b hm o => hb.cell (p := ⟨b, o, none⟩) (ha.lt b hm)), hf.below hb, hn⟩
  cases v.ownBlock with
  | none => exact .inl rfl
  | some b => exact .inr (by simp)

theorem GrowB.own {B : Nat} {ds : List Bd} {v : Value} {fp : List Nat} {w : World} (h : GrowB B ds v fp w) : ∃ xs, w.ownsRow B 34 3 v ds.length xs := ⟨_, h.choose_spec.1⟩

theorem GrowB.setCell {B : Nat} {ds : List Bd} {v : Value} {fp : List Nat} {w : World} (h : GrowB B ds v fp w) {p : Addr} (hp : p.block < B) (u : Value) : GrowB B ds v fp (w.setCell p u) := by
  obtain ⟨xs, ho, ha, hf, hn⟩ := h
  have hne : ∀ b ∈ fp, b ≠ p.block := fun b hb e => by have := hf.ge b hb; omega
  exact ⟨xs, ownsRow_setCell_below ho hp u, ha.congr (fun b hm o => cell_setCell_ne w p u b o (hne b hm)), hf.setCell hne u, hn⟩

/-- One more element: the call that made it, the one-element slice of the append, the append. -/
theorem GrowB.step {B : Nat} {ds : List Bd} {v : Value} {fp f : List Nat} {xs : List Value} {w w1 w2 w3 : World} {t : Bd} {x y z : Value} {g cap n : Nat}
    (ha : AtYs w1 ds xs fp) (hf : Fresh B w1 fp) (hn : ∀ b, v.ownBlock = some b → b ∉ fp) (hfp : ∀ b ∈ fp, b < w.heap.size) (hvb : ∀ b, v.ownBlock = some b → b < w.heap.size)
    (hB : B ≤ w.heap.size) (ht : BdAt w1 t (.agg #[x, y, z]) f) (hft : Fresh w.heap.size w1 f) (h2 : Below w1.heap.size w1 w2) (hg : w2.grownBy w3 v.ownBlock) (h3 : w3.ownsRow B 34 3 (.slice (some ⟨g, 0, none⟩) n cap) n (xs ++ [x, y, z]))
    (hnn : n = ds.length + 1) (hat : v.ownBlock = some g ∨ g = w2.heap.size) : GrowB B (ds ++ [t]) (.slice (some ⟨g, 0, none⟩) n cap) (fp ++ f) w3 := by
  subst hnn
  have hlt1 : ∀ b ∈ fp ++ f, b < w1.heap.size := fun b hb => by
    rcases List.mem_append.1 hb with hb | hb
    · exact (hf.2 b hb).2.1
    · exact (hft.2 b hb).2.1
  have hne : ∀ b ∈ fp ++ f, some b ≠ v.ownBlock := fun b hb e => by
    rcases List.mem_append.1 hb with hb | hb
    · exact hn b e.symm hb
    · have := hft.ge b hb
      have := hvb b e.symm
      omega
  have hk : ∀ b ∈ fp ++ f, w3.heap[b]? = w1.heap[b]? := fun b hb => by
    rw [hg.block b (Nat.lt_of_lt_of_le (hlt1 b hb) h2.size) (hne b hb), h2.block b (hlt1 b hb)]
  have hc : ∀ b ∈ fp ++ f, ∀ o, w3.cell? ⟨b, o, none⟩ = w1.cell? ⟨b, o, none⟩ := fun b hb o => World.cell?_of_block (w := w1) (a := ⟨b, o, none⟩) (hk b hb)
  have hz : ∀ b ∈ fp ++ f, ∀ o, w3.frozen? ⟨b, o, none⟩ = w1.frozen? ⟨b, o, none⟩ := fun b hb o => World.frozen?_of_block (w := w1) (a := ⟨b, o, none⟩) (hk b hb)
  refine ⟨xs ++ [x, y, z], by simpa using h3, (ha.snoc ht).congr hc, ⟨List.nodup_append.2 ⟨hf.1, hft.1, fun a ha b hb e => ?_⟩, fun b hb => ?_⟩, fun b hb hm => ?_⟩
  · have := hfp a ha
    have := hft.ge b hb
    omega
  · refine ⟨?_, Nat.lt_of_lt_of_le (hlt1 b hb) (Nat.le_trans h2.size hg.size), fun o => ?_⟩
    · rcases List.mem_append.1 hb with hb | hb
      · exact hf.ge b hb
      · exact Nat.le_trans hB (hft.ge b hb)
    · rw [hz b hb o]
      rcases List.mem_append.1 hb with hb | hb
      · exact (hf.2 b hb).2.2 o
      · exact (hft.2 b hb).2.2 o
  · obtain rfl : g = b := by simpa [Value.ownBlock] using hb
    rcases hat with hat | hat
    · exact hne g hm hat.symm
    · have := hlt1 g hm
      have := h2.size
      omega

theorem GrowB.shape {B : Nat} {ds : List Bd} {v : Value} {fp : List Nat} {w : World} (h : GrowB B ds v fp w) : ∃ a cap, v = .slice a ds.length cap := by
  obtain ⟨xs, ho, _⟩ := h
  rcases ho.2 with ⟨rfl, h0⟩ | ⟨g, cap, cur, rfl, _⟩
  · exact ⟨none, 0, by rw [h0]⟩
  · exact ⟨_, _, rfl⟩

theorem GrowB.block {B : Nat} {ds : List Bd} {v : Value} {fp : List Nat} {w : World} (h : GrowB B ds v fp w) : (∀ b ∈ fp, b < w.heap.size) ∧ ∀ b, v.ownBlock = some b → b < w.heap.size := by
  obtain ⟨xs, ho, _, hf, _⟩ := h
  exact ⟨fun b hb => (hf.2 b hb).2.1, fun b hb => (ho.lt b hb).2⟩

theorem GrowB.rw {M B : Nat} {ds : List Bd} {v : Value} {fp : List Nat} {w w' : World} (h : GrowB B ds v fp w) (hM : M < B) (hr : Rw M w w') : GrowB B ds v fp w' := by
  obtain ⟨xs, ho, ha, hf, hn⟩ := h
  refine ⟨xs, ho.kept hr.grown ?_, ha.congr (fun b hm o => World.cell?_of_block (w := w) (a := ⟨b, o, none⟩) (hr.above b (by have := (hf.2 b hm).1; omega) (hf.2 b hm).2.1)), hr.fresh hf hM, hn⟩
  cases hv : v.ownBlock with
  | none => exact .inl rfl
  | some b =>
    right
    intro e
    have := (ho.lt b hv).1
    have := Option.some.inj e
    omega

theorem GrowB.done2 {B : Nat} {ds : List Bd} {v : Value} {fp : List Nat} {w : World} (h : GrowB B ds v fp w) (hm : ds.length ≤ maxLen) : ∃ fp', BsAt w ds v fp' ∧ Fresh B w fp' ∧ ∀ b ∈ fp', b ∈ fp ∨ v.ownBlock = some b := by
  obtain ⟨xs, ho, ha, hf, hn⟩ := h
  rcases ho.2 with ⟨rfl, h0⟩ | ⟨g, cap, cur, rfl, hb, hg, hc, hmx, hsz, hx⟩
  · exact ⟨[], .inl ⟨List.length_eq_zero_iff.1 h0, rfl, none, 0, rfl⟩, Fresh.nil _ _, by simp⟩
  · by_cases h0 : ds.length = 0
    · exact ⟨[], .inl ⟨List.length_eq_zero_iff.1 h0, rfl, _, _, by rw [h0]⟩, Fresh.nil _ _, by simp⟩
    · have hcell : ∀ j u, xs[j]? = some u → w.cell? ⟨g, 0 + j, none⟩ = some u := fun j u hj => by
        rw [Nat.zero_add, cell_of_block hg, ← hj, ← hx, List.getElem?_take]
        have : j < xs.length := (List.getElem?_eq_some_iff.1 hj).1
        rw [if_pos (by rw [ho.1] at this; exact this)]
        simp
      refine ⟨g :: fp, .inr ⟨g, 0, cap, fp, rfl, by omega, hc, hm, ha.atL hcell, rfl⟩, ⟨List.nodup_cons.2 ⟨hn g rfl, hf.1⟩, fun b hb' => ?_⟩, fun b hb' => ?_⟩
      · rcases List.mem_cons.1 hb' with rfl | hb'
        · exact ⟨hb, lt_of_block hg, fun o => frozen_of_block hg⟩
        · exact hf.2 b hb'
      · rcases List.mem_cons.1 hb' with rfl | hb'
        · exact .inr rfl
        · exact .inl hb'


end Go.Proofs.Ytfpkolleoglbiaa

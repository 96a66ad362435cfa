/- Bindings: how a list of names with types lies in memory. -/
import Derived.Test.YtfpkolleoglbiaaPkA
import Derived.StillTailTactics
namespace Go.Proofs.Ytfpkolleoglbiaa
open Go.RowKit

/-- A binding. -/
structure Bd where
  nm : ByteArray
  ty : Ty

def BdAt (w : World) (x : Bd) (v : Value) (fp : List Nat) : Prop := ∃ k n a c, v = .agg #[.string x.nm, .int .i64 k, .slice a n c] ∧ x.nm.size ≤ maxLen ∧ x.ty.At w (.agg #[.int .i64 k, .slice a n c]) fp

def BdL (w : World) : List Bd → Nat → Nat → List Nat → Prop
  | [], _, _, fp => fp = []
  | x :: xs, b, o, fp => ∃ v0 v1 v2 f1 f2, w.cell? ⟨b, o, none⟩ = some v0 ∧ w.cell? ⟨b, o + 1, none⟩ = some v1 ∧ w.cell? ⟨b, o + 2, none⟩ = some v2 ∧ BdAt w x (.agg #[v0, v1, v2]) f1 ∧ BdL w xs b (o + 3) f2 ∧ fp = f1 ++ f2

/-- A slice value that reads as a list of bindings. -/
def BsAt (w : World) (xs : List Bd) (s : Value) (fp : List Nat) : Prop :=
  (xs = [] ∧ fp = [] ∧ ∃ a cap, s = .slice a 0 cap) ∨
  ∃ b o cap f, s = .slice (some ⟨b, o, none⟩) xs.length cap ∧ 0 < xs.length ∧ xs.length ≤ cap ∧ xs.length ≤ maxLen ∧ BdL w xs b o f ∧ fp = b :: f

theorem BdAt.congr {w w' : World} {x : Bd} {v : Value} {fp : List Nat} (h : BdAt w x v fp) (hk : ∀ b ∈ fp, ∀ o, w'.cell? ⟨b, o, none⟩ = w.cell? ⟨b, o, none⟩) : BdAt w' x v fp := by
  obtain ⟨k, n, a, c, hv, hn, ht⟩ := h
  exact ⟨k, n, a, c, hv, hn, ht.congr hk⟩

theorem BdAt.lt {w : World} {x : Bd} {v : Value} {fp : List Nat} (h : BdAt w x v fp) : ∀ b ∈ fp, b < w.heap.size := by
  obtain ⟨k, n, a, c, hv, hn, ht⟩ := h
  exact ht.lt

theorem BdAt.below {w w' : World} {x : Bd} {v : Value} {fp : List Nat} (h : BdAt w x v fp) (hb : Below w.heap.size w w') : BdAt w' x v fp :=
  h.congr fun b hm o => hb.cell (p := ⟨b, o, none⟩) (h.lt b hm)

theorem BdL.congr {w w' : World} : ∀ {xs : List Bd} {b o : Nat} {fp : List Nat}, BdL w xs b o fp → (∀ o', o ≤ o' → o' < o + xs.length * 3 → w'.cell? ⟨b, o', none⟩ = w.cell? ⟨b, o', none⟩) → (∀ b ∈ fp, ∀ o, w'.cell? ⟨b, o, none⟩ = w.cell? ⟨b, o, none⟩) → BdL w' xs b o fp
  | [], _, _, _, h, _, _ => h
  | x :: xs, b, o, fp, h, hb, hk => by
    obtain ⟨v0, v1, v2, f1, f2, c0, c1, c2, ha, hl, rfl⟩ := h
    simp only [List.length_cons] at hb
    exact ⟨v0, v1, v2, f1, f2, (hb _ (Nat.le_refl _) (by omega)).trans c0, (hb _ (by omega) (by omega)).trans c1, (hb _ (by omega) (by omega)).trans c2, ha.congr (fun x hx => hk x (List.mem_append_left _ hx)),
      hl.congr (fun o' h1 h2 => hb o' (by omega) (by omega)) (fun x hx => hk x (List.mem_append_right _ hx)), rfl⟩

theorem BdL.lt {w : World} : ∀ {xs : List Bd} {b o : Nat} {fp : List Nat}, BdL w xs b o fp → ∀ b ∈ fp, b < w.heap.size
  | [], _, _, _, h => by cases h; simp
  | x :: xs, b, o, fp, h => by
    obtain ⟨v0, v1, v2, f1, f2, c0, c1, c2, ha, hl, rfl⟩ := h
    intro x hx
    rcases List.mem_append.1 hx with hx | hx
    · exact ha.lt x hx
    · exact hl.lt x hx

theorem BdL.get {w : World} : ∀ {xs : List Bd} {b o : Nat} {fp : List Nat}, BdL w xs b o fp → ∀ i, (h : i < xs.length) →
    ∃ k n a c f, w.cell? ⟨b, o + i * 3, none⟩ = some (.string xs[i].nm) ∧ w.cell? ⟨b, o + i * 3 + 1, none⟩ = some (.int .i64 k) ∧ w.cell? ⟨b, o + i * 3 + 2, none⟩ = some (.slice a n c) ∧ xs[i].nm.size ≤ maxLen ∧
      xs[i].ty.At w (.agg #[.int .i64 k, .slice a n c]) f ∧ (∀ x ∈ f, x ∈ fp)
  | [], _, _, _, _, i, h => by simp at h
  | x :: xs, b, o, fp, hat, i, h => by
    obtain ⟨v0, v1, v2, f1, f2, c0, c1, c2, ⟨k, n, a, c, hv, hn, ht⟩, hl, rfl⟩ := hat
    simp only [Value.agg.injEq, Array.mk.injEq, List.cons.injEq, and_true] at hv
    obtain ⟨rfl, rfl, rfl⟩ := hv
    cases i with
    | zero => exact ⟨k, n, a, c, f1, by simpa using c0, by simpa using c1, by simpa using c2, hn, ht, fun x hx => List.mem_append_left _ hx⟩
    | succ i =>
      obtain ⟨k', n', a', c', f, d0, d1, d2, hn', hb, hf⟩ := hl.get i (by simpa using h)
      refine ⟨k', n', a', c', f, ?_, ?_, ?_, by simpa using hn', by simpa using hb, fun x hx => List.mem_append_right _ (hf x hx)⟩
      · rw [show o + (i + 1) * 3 = o + 3 + i * 3 by omega]; simpa using d0
      · rw [show o + (i + 1) * 3 + 1 = o + 3 + i * 3 + 1 by omega]; exact d1
      · rw [show o + (i + 1) * 3 + 2 = o + 3 + i * 3 + 2 by omega]; exact d2

theorem BsAt.congr {w w' : World} {xs : List Bd} {s : Value} {fp : List Nat} (h : BsAt w xs s fp) (hk : ∀ b ∈ fp, ∀ o, w'.cell? ⟨b, o, none⟩ = w.cell? ⟨b, o, none⟩) : BsAt w' xs s fp := by
  rcases h with h | ⟨b, o, cap, f, hs, hp, hc, hm, hl, rfl⟩
  · exact .inl h
  · exact .inr ⟨b, o, cap, f, hs, hp, hc, hm, hl.congr (fun o' _ _ => hk b (by simp) o') (fun b' hb' => hk b' (by simp [hb'])), rfl⟩

theorem BsAt.lt {w : World} {xs : List Bd} {s : Value} {fp : List Nat} (h : BsAt w xs s fp) : ∀ b ∈ fp, b < w.heap.size := by
  rcases h with ⟨_, rfl, _⟩ | ⟨b, o, cap, f, hs, hp, hc, hm, hl, rfl⟩
  · simp
  · intro x hx
    rcases List.mem_cons.1 hx with rfl | hx
    · obtain ⟨k, n, a, c, f, c0, _⟩ := hl.get 0 hp
      exact World.block_lt_of_cell? _ _ c0
    · exact hl.lt x hx

theorem BsAt.below {w w' : World} {xs : List Bd} {s : Value} {fp : List Nat} (h : BsAt w xs s fp) (hb : Below w.heap.size w w') : BsAt w' xs s fp :=
  h.congr fun b hm o => hb.cell (p := ⟨b, o, none⟩) (h.lt b hm)

/-- What a loop over a slice of bindings takes. -/
theorem BsAt.open {w : World} {xs : List Bd} {s : Value} {fp : List Nat} (h : BsAt w xs s fp) :
    ∃ a cap, s = .slice a xs.length cap ∧ xs.length ≤ cap ∧ xs.length ≤ 9223372036854775807 ∧ ∀ i, (h : i < xs.length) → ∃ b o nm k1 n1 a1 c1 f, a = some ⟨b, o, none⟩ ∧ b < w.heap.size ∧ nm = xs[i].nm ∧ nm.size ≤ 9223372036854775807 ∧
      w.cell? ⟨b, o + i * 3, none⟩ = some (.string nm) ∧ w.cell? ⟨b, o + i * 3 + 1, none⟩ = some (.int .i64 k1) ∧ w.cell? ⟨b, o + i * 3 + 2, none⟩ = some (.slice a1 n1 c1) ∧
      xs[i].ty.At w (.agg #[.int .i64 k1, .slice a1 n1 c1]) f ∧ (∀ x ∈ f, x ∈ fp) := by
  rcases h with ⟨rfl, rfl, a, cap, rfl⟩ | ⟨b, o, cap, f, rfl, hp, hc, hm, hl, rfl⟩
  · exact ⟨a, cap, rfl, Nat.zero_le _, by simp, fun i h => by simp at h⟩
  · refine ⟨some ⟨b, o, none⟩, cap, rfl, hc, hm, fun i h => ?_⟩
    obtain ⟨k, n, a, c, f1, c0, c1, c2, hn, hat, hf⟩ := hl.get i h
    exact ⟨b, o, _, k, n, a, c, f1, rfl, World.block_lt_of_cell? _ _ c0, rfl, hn, c0, c1, c2, hat, fun x hx => List.mem_cons_of_mem _ (hf x hx)⟩

theorem BsAt.shape {w : World} {xs : List Bd} {s : Value} {fp : List Nat} (h : BsAt w xs s fp) : ∃ a cap, s = .slice a xs.length cap :=
  let ⟨a, cap, hs, _⟩ := h.open
  ⟨a, cap, hs⟩

theorem BdL.snoc {w : World} : ∀ {xs : List Bd} {x : Bd} {b o : Nat} {f1 f2 : List Nat} {v0 v1 v2 : Value}, BdL w xs b o f1 → w.cell? ⟨b, o + xs.length * 3, none⟩ = some v0 → w.cell? ⟨b, o + xs.length * 3 + 1, none⟩ = some v1 → w.cell? ⟨b, o + xs.length * 3 + 2, none⟩ = some v2 → BdAt w x (.agg #[v0, v1, v2]) f2 → BdL w (xs ++ [x]) b o (f1 ++ f2)
  | [], x, b, o, f1, f2, v0, v1, v2, h, c0, c1, c2, ha => by
    cases h
    exact ⟨v0, v1, v2, f2, [], by simpa using c0, by simpa using c1, by simpa using c2, ha, rfl, by simp⟩
  | u :: xs, x, b, o, f1, f2, v0, v1, v2, h, c0, c1, c2, ha => by
    obtain ⟨u0, u1, u2, g1, g2, d0, d1, d2, hu, hl, rfl⟩ := h
    simp only [List.length_cons] at c0 c1 c2
    refine ⟨u0, u1, u2, g1, g2 ++ f2, d0, d1, d2, hu, hl.snoc ?_ ?_ ?_ ha, by simp⟩
    · rw [show o + 3 + xs.length * 3 = o + (xs.length + 1) * 3 by omega]; exact c0
    · rw [show o + 3 + xs.length * 3 + 1 = o + (xs.length + 1) * 3 + 1 by omega]; exact c1
    · rw [show o + 3 + xs.length * 3 + 2 = o + (xs.length + 1) * 3 + 2 by omega]; exact c2

theorem box3 {w wr : World} {x0 x1 x2 : Value} {T : TypeId} (h : Below (w.alloc (Obj.cells #[x0, x1, x2] T)).heap.size (w.alloc (Obj.cells #[x0, x1, x2] T)) wr) :
    wr.cell? ⟨w.heap.size, 0, none⟩ = some x0 ∧ wr.cell? ⟨w.heap.size, 1, none⟩ = some x1 ∧ wr.cell? ⟨w.heap.size, 2, none⟩ = some x2 := by
  have hb := (h.block w.heap.size (by simp)).trans (alloc_new w _)
  simp only [cell_of_block hb]
  exact ⟨rfl, rfl, rfl⟩

end Go.Proofs.Ytfpkolleoglbiaa

/- An argument that is a list of the laws' type Bind, opened. -/
import Derived.Test.YtgmpndpehhbmgaaOpen
import Derived.Test.YtgmpndpehhbmgaaBd
namespace Go.Proofs.Ytgmpndpehhbmgaa
open Go.ChangeShapes Go.WideShapes Go.ChangeAt Go.RowKit Go.Deep

theorem Try.cellsBd : Try.prog.cellsOf 54 = 3 := by kernel_rfl
theorem Try.cellsStr0 : Try.prog.cellsOf 9 = 1 := by kernel_rfl

section
variable {H : Type} {enc : TypeId × Value → H} {w : World} {base : Nat} {sp : Nat → Bool} {hd : Bool}

theorem bdL_of {b : Nat} : ∀ (n o : Nat), (∀ i, i < n → ∃ v0 v1 v2 x f, w.cell? ⟨b, o + i * 3, none⟩ = some v0 ∧ w.cell? ⟨b, o + i * 3 + 1, none⟩ = some v1 ∧ w.cell? ⟨b, o + i * 3 + 2, none⟩ = some v2 ∧ BdAt w x (.agg #[v0, v1, v2]) f) →
    ∃ xs fp, xs.length = n ∧ BdL w xs b o fp
  | 0, o, _ => ⟨[], [], rfl, rfl⟩
  | n + 1, o, h => by
    obtain ⟨v0, v1, v2, x, f, c0, c1, c2, ht⟩ := h 0 (by omega)
    obtain ⟨xs, fp, hn, hl⟩ := bdL_of n (o + 3) (fun i hi => by
      have := h (i + 1) (by omega)
      rw [show o + (i + 1) * 3 = o + 3 + i * 3 by omega] at this
      exact this)
    exact ⟨x :: xs, f ++ fp, by simp [hn], v0, v1, v2, f, fp, by simpa using c0, by simpa using c1, by simpa using c2, ht, hl, rfl⟩

set_option maxRecDepth 100000 in
theorem open_bd {fuel : Nat} {cs : List Value} {x : DataW H × List MemPlace} (h : DataW.trod enc Try.prog w base sp hd fuel 54 cs = some x) : ∃ v0 v1 v2, cs = [v0, v1, v2] ∧ ∃ (b : Bd) (fp : List Nat), BdAt w b (.agg #[v0, v1, v2]) fp := by
  obtain ⟨xs, n, rfl, hx, hl, hlen, hf⟩ := DataW.trod_struct Try.underlying54 h
  rw [Try.cellsBd] at hl
  match xs, hlen, cs, hl with
  | [y0, y1], _, [c0, c1, c2], _ =>
    have g0 := hf 0 _ rfl
    have g1 := hf 1 _ rfl
    simp [Try.cellsStr0, Try.cellsTy] at g0 g1
    obtain ⟨nm, hnm, _, hns⟩ := DataW.trod_string Try.underlying9 g0
    simp at hnm
    subst hnm
    obtain ⟨ty, f1, h1⟩ := open_ty _ _ _ g1
    obtain ⟨k, m, a, c, e⟩ := h1.agg
    simp only [Value.agg.injEq, Array.mk.injEq, List.cons.injEq, and_true] at e
    obtain ⟨rfl, rfl⟩ := e
    exact ⟨_, _, _, rfl, ⟨nm, ty⟩, f1, k, m, a, c, rfl, hns, h1⟩

set_option maxRecDepth 100000 in
theorem open_bds {fuel : Nat} {v : Value} {x : DataW H × List MemPlace} (h : DataW.trod enc Try.prog w base sp hd fuel 27 [v] = some x) : ∃ (xs : List Bd) (fp : List Nat), BsAt w xs v fp := by
  rcases DataW.trod_slice Try.underlying27 h with ⟨hc, _⟩ | ⟨a, len, cap, elems, rest, m, rfl, hc, _, hb, hle, hm, hel, hi, _⟩
  · simp at hc
    subst hc
    exact ⟨[], [], .inl ⟨rfl, rfl, _, _, rfl⟩⟩
  · simp at hc
    subst hc
    by_cases h0 : len = 0
    · subst h0
      exact ⟨[], [], .inl ⟨rfl, rfl, _, _, rfl⟩⟩
    rw [Try.cellsBd] at hi
    have hel' : ∀ i, i < len → ∃ v0 v1 v2 t f, w.cell? (a.add (i * 3)) = some v0 ∧ w.cell? ((a.add (i * 3)).add 1) = some v1 ∧ w.cell? ((a.add (i * 3)).add 2) = some v2 ∧ BdAt w t (.agg #[v0, v1, v2]) f := by
      intro i hil
      have h2 := hi i hil
      rw [List.getElem?_eq_getElem (by omega)] at h2
      obtain ⟨cs', h3, h4⟩ := Option.bind_eq_some_iff.1 h2
      obtain ⟨_, hl', hc'⟩ := World.cells?_some h3
      obtain ⟨v0, v1, v2, rfl, t, f, hat⟩ := open_bd h4
      have e0 := hc' 0 (by omega)
      have e1 := hc' 1 (by omega)
      have e2 := hc' 2 (by omega)
      simp [Addr.add] at e0
      exact ⟨v0, v1, v2, t, f, by simpa [Addr.add] using e0, by simpa using e1, by simpa using e2, hat⟩
    obtain ⟨b, off, spot⟩ := a
    obtain ⟨v0, _, _, _, _, e0, _⟩ := hel' 0 (by omega)
    have hspot : spot = none := by simpa [Addr.add] using World.cell?_spot e0
    subst hspot
    obtain ⟨ts, fp, hn, hl⟩ := bdL_of (w := w) (b := b) len off (fun i hil => by
      obtain ⟨v0, v1, v2, t, f, d0, d1, d2, hat⟩ := hel' i hil
      refine ⟨v0, v1, v2, t, f, ?_, ?_, ?_, hat⟩
      · simpa [add_plain] using d0
      · simpa [add_plain] using d1
      · simpa [add_plain] using d2)
    subst hn
    exact ⟨ts, b :: fp, .inr ⟨b, off, cap, fp, rfl, by omega, hle, Nat.le_trans hle hm, hl, rfl⟩⟩
end
end Go.Proofs.Ytgmpndpehhbmgaa

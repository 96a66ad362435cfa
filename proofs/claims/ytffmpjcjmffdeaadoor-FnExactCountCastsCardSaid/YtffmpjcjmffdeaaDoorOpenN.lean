/- An argument of the laws' type Term, opened: whatever reads as one is a term. -/
import Derived.Test.YtffmpjcjmffdeaaDoorOpen
import Derived.Test.YtffmpjcjmffdeaaDoorPkA
namespace Go.Proofs.YtffmpjcjmffdeaaDoor
open Go.ChangeShapes Go.WideShapes Go.ChangeAt Go.RowKit Go.Deep

theorem Tryd.cellsTm : Tryd.prog.cellsOf 27 = 9 := by kernel_rfl
theorem Tryd.cellsStr : Tryd.prog.cellsOf 9 = 1 := by kernel_rfl
theorem Tryd.cellsSlM : Tryd.prog.cellsOf 25 = 1 := by kernel_rfl

section
variable {H : Type} {enc : TypeId × Value → H} {w : World} {base : Nat} {sp : Nat → Bool} {hd : Bool}

theorem atML_of {b : Nat} : ∀ (n o : Nat), (∀ i, i < n → ∃ cs t f, (∀ j, j < 9 → w.cell? ⟨b, o + i * 9 + j, none⟩ = cs[j]?) ∧ Tm.At w t (.agg cs) f) →
    ∃ ts fp, ts.length = n ∧ Tm.AtL w ts b o fp
  | 0, o, _ => ⟨[], [], rfl, by simp only [Tm.AtL]⟩
  | n + 1, o, h => by
    obtain ⟨cs, t, f, hc, ht⟩ := h 0 (by omega)
    obtain ⟨ts, fp, hn, hl⟩ := atML_of n (o + 9) (fun i hi => by
      obtain ⟨cs, t, f, hc, ht⟩ := h (i + 1) (by omega)
      refine ⟨cs, t, f, fun j hj => ?_, ht⟩
      rw [show o + 9 + i * 9 + j = o + (i + 1) * 9 + j by omega]
      exact hc j hj)
    refine ⟨t :: ts, f ++ fp, by simp [hn], ?_⟩
    simp only [Tm.AtL]
    exact ⟨cs, f, fp, fun j hj => by have := hc j hj; rw [Nat.zero_mul, Nat.add_zero] at this; exact this, ht, hl, rfl⟩

set_option maxHeartbeats 1000000 in
set_option maxRecDepth 100000 in
theorem open_tm : ∀ (fuel : Nat) (cs : List Value) (x : DataW H × List MemPlace), DataW.trod enc Tryd.prog w base sp hd fuel 27 cs = some x → ∃ (t : Tm) (fp : List Nat), Tm.At w t (.agg cs.toArray) fp := by
  intro fuel
  induction fuel using Nat.strongRecOn with
  | _ fuel ih =>
    intro cs x h
    obtain ⟨xs, n, rfl, hx, hl, hlen, hf⟩ := DataW.trod_struct Tryd.underlying27 h
    rw [Tryd.cellsTm] at hl
    match xs, hlen, cs, hl with
    | [y0, y1, y2, y3, y4, y5, y6], _, [c0, c1, c2, c3, c4, c5, c6, c7, c8], _ =>
      have g0 := hf 0 _ rfl
      have g1 := hf 1 _ rfl
      have g2 := hf 2 _ rfl
      have g3 := hf 3 _ rfl
      have g4 := hf 4 _ rfl
      have g5 := hf 5 _ rfl
      have g6 := hf 6 _ rfl
      simp [Tryd.cellsInt, Tryd.cellsSlM, Tryd.cellsTy, Tryd.cellsStr] at g0 g1 g2 g3 g4 g5 g6
      obtain ⟨k, hk, _, _⟩ := DataW.trod_int Tryd.underlying3 g0
      simp at hk
      subst hk
      obtain ⟨nm, hnm, _, hns⟩ := DataW.trod_string Tryd.underlying9 g1
      simp at hnm
      subst hnm
      obtain ⟨num, hnum, _, _⟩ := DataW.trod_int Tryd.underlying3 g2
      simp at hnum
      subst hnum
      obtain ⟨lb, hlb, _, _⟩ := DataW.trod_int Tryd.underlying3 g5
      simp at hlb
      subst hlb
      obtain ⟨ty, f1, h1⟩ := open_ty _ _ _ g3
      obtain ⟨fr, f2, h2⟩ := open_ty _ _ _ g4
      rcases DataW.trod_slice Tryd.underlying25 g6 with ⟨hc, _⟩ | ⟨a, len, cap, elems, rest, m, rfl, hc, _, hb, hle, hm, hel, hi, _⟩
      · simp at hc
        subst hc
        exact ⟨.mk k nm num ty fr lb [], _, Tm.at_mk.2 ⟨_, _, _, _, _, f1, f2, [], rfl, hns, h1, h2, rfl, .inl ⟨rfl, rfl, _, _, rfl⟩⟩⟩
      · simp at hc
        subst hc
        by_cases h0 : len = 0
        · subst h0
          exact ⟨.mk k nm num ty fr lb [], _, Tm.at_mk.2 ⟨_, _, _, _, _, f1, f2, [], rfl, hns, h1, h2, rfl, .inl ⟨rfl, rfl, _, _, rfl⟩⟩⟩
        rw [Tryd.cellsTm] at hi
        have hel' : ∀ i, i < len → ∃ cs t f, (∀ j, j < 9 → w.cell? ((a.add (i * 9)).add j) = cs[j]?) ∧ Tm.At w t (.agg cs) f := by
          intro i hil
          have h2 := hi i hil
          rw [List.getElem?_eq_getElem (by omega)] at h2
          obtain ⟨cs', h3, h4⟩ := Option.bind_eq_some_iff.1 h2
          obtain ⟨_, hl', hc'⟩ := World.cells?_some h3
          obtain ⟨t, f, hat⟩ := ih m (by omega) _ _ h4
          exact ⟨_, t, f, fun j hj => by simpa using hc' j hj, hat⟩
        obtain ⟨b, off, spot⟩ := a
        obtain ⟨ds, t0, _, e0, hat0⟩ := hel' 0 (by omega)
        have e00 := e0 0 (by omega)
        have h9 := Tm.size9 hat0
        rw [Array.getElem?_eq_getElem (by omega)] at e00
        have hspot : spot = none := by simpa [Addr.add] using World.cell?_spot e00
        subst hspot
        obtain ⟨ts, fp, hn, hl⟩ := atML_of (w := w) (b := b) len off (fun i hil => by
          obtain ⟨ds, t, f, d0, hat⟩ := hel' i hil
          refine ⟨ds, t, f, fun j hj => ?_, hat⟩
          have := d0 j hj
          simpa [add_plain] using this)
        subst hn
        exact ⟨.mk k nm num ty fr lb ts, _, Tm.at_mk.2 ⟨_, _, _, _, _, f1, f2, b :: fp, rfl, hns, h1, h2, rfl, .inr ⟨b, off, cap, fp, rfl, by omega, hle, Nat.le_trans hle hm, hl, rfl⟩⟩⟩
end

end Go.Proofs.YtffmpjcjmffdeaaDoor

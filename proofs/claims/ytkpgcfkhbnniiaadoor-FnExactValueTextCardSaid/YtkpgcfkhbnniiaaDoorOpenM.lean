/- An argument of the laws' type Term, opened: whatever reads as one is a term; and the table of forms out of the row's condition. -/
import Derived.Test.YtkpgcfkhbnniiaaDoorOpen
import Derived.Test.YtkpgcfkhbnniiaaDoorNe0
import Derived.Test.YtkpgcfkhbnniiaaDoorTie
import Derived.Test.YtkpgcfkhbnniiaaDoorCards
import Derived.LaidMore
import Derived.Stop.Joined
import Derived.OpenVars
import Derived.SevenTiedAt
namespace Go.Proofs.YtkpgcfkhbnniiaaDoor
open Go.ChangeShapes Go.WideShapes Go.ChangeAt Go.RowKit Go.Deep

theorem Tryd.cellsTm : Tryd.prog.cellsOf 38 = 9 := by kernel_rfl
theorem Tryd.cellsStr : Tryd.prog.cellsOf 9 = 1 := by kernel_rfl
theorem Tryd.cellsSlM : Tryd.prog.cellsOf 36 = 1 := by kernel_rfl

section
variable {H : Type} {enc : TypeId × Value → H} {w : World} {base : Nat} {sp : Nat → Bool} {hd : Bool}

theorem atML_of {b : Nat} : ∀ (n o : Nat), (∀ i, i < n → ∃ cs t f, (∀ j, j < 9 → w.cell? ⟨b, o + i * 9 + j, none⟩ = cs[j]?) ∧ Tm.At w t (.agg cs) f) →
    ∃ ts fp, ts.length = n ∧ Tm.AtL w ts b o fp
  | 0, o, _ => ⟨[], [], rfl, by simp only [Tm.AtL]⟩
  | n + 1, o, h => by
    obtain ⟨cs, t, f, hc, ht⟩ := h 0 (by omega)
    obtain ⟨ts, fp, hn, hl⟩ := atML_of n (o + 9) (fun i hi => by
      obtain ⟨cs, t, f, hc, ht⟩ := h (i + 1) (by omega)
      refine ⟨cs, t, f, fun j hj => ?_, ht⟩
      rw [show o + 9 + i * 9 + j = o + (i + 1) * 9 + j by omega]
      exact hc j hj)
    refine ⟨t :: ts, f ++ fp, by simp [hn], ?_⟩
    simp only [Tm.AtL]
    exact ⟨cs, f, fp, fun j hj => by have := hc j hj; rw [Nat.zero_mul, Nat.add_zero] at this; exact this, ht, hl, rfl⟩

set_option maxHeartbeats 1000000 in
set_option maxRecDepth 100000 in
theorem open_tm : ∀ (fuel : Nat) (cs : List Value) (x : DataW H × List MemPlace), DataW.trod enc Tryd.prog w base sp hd fuel 38 cs = some x → ∃ (t : Tm) (fp : List Nat), Tm.At w t (.agg cs.toArray) fp := by
  intro fuel
  induction fuel using Nat.strongRecOn with
  | _ fuel ih =>
    intro cs x h
    obtain ⟨xs, n, rfl, hx, hl, hlen, hf⟩ := DataW.trod_struct Tryd.underlying38 h
    rw [Tryd.cellsTm] at hl
    match xs, hlen, cs, hl with
    | [y0, y1, y2, y3, y4, y5, y6], _, [c0, c1, c2, c3, c4, c5, c6, c7, c8], _ =>
      have g0 := hf 0 _ rfl
      have g1 := hf 1 _ rfl
      have g2 := hf 2 _ rfl
      have g3 := hf 3 _ rfl
      have g4 := hf 4 _ rfl
      have g5 := hf 5 _ rfl
      have g6 := hf 6 _ rfl
      simp [Tryd.cellsInt, Tryd.cellsSlM, Tryd.cellsTy, Tryd.cellsStr] at g0 g1 g2 g3 g4 g5 g6
      obtain ⟨k, hk, _, _⟩ := DataW.trod_int Tryd.underlying3 g0
      simp at hk
      subst hk
      obtain ⟨nm, hnm, _, hns⟩ := DataW.trod_string Tryd.underlying9 g1
      simp at hnm
      subst hnm
      obtain ⟨num, hnum, _, _⟩ := DataW.trod_int Tryd.underlying3 g2
      simp at hnum
      subst hnum
      obtain ⟨lb, hlb, _, _⟩ := DataW.trod_int Tryd.underlying3 g5
      simp at hlb
      subst hlb
      obtain ⟨ty, f1, h1⟩ := open_ty _ _ _ g3
      obtain ⟨fr, f2, h2⟩ := open_ty _ _ _ g4
      rcases DataW.trod_slice Tryd.underlying36 g6 with ⟨hc, _⟩ | ⟨a, len, cap, elems, rest, m, rfl, hc, _, hb, hle, hm, hel, hi, _⟩
      · simp at hc
        subst hc
        exact ⟨.mk k nm num ty fr lb [], _, Tm.at_mk.2 ⟨_, _, _, _, _, f1, f2, [], rfl, hns, h1, h2, rfl, .inl ⟨rfl, rfl, _, _, rfl⟩⟩⟩
      · simp at hc
        subst hc
        by_cases h0 : len = 0
        · subst h0
          exact ⟨.mk k nm num ty fr lb [], _, Tm.at_mk.2 ⟨_, _, _, _, _, f1, f2, [], rfl, hns, h1, h2, rfl, .inl ⟨rfl, rfl, _, _, rfl⟩⟩⟩
        rw [Tryd.cellsTm] at hi
        have hel' : ∀ i, i < len → ∃ cs t f, (∀ j, j < 9 → w.cell? ((a.add (i * 9)).add j) = cs[j]?) ∧ Tm.At w t (.agg cs) f := by
          intro i hil
          have h2 := hi i hil
          rw [List.getElem?_eq_getElem (by omega)] at h2
          obtain ⟨cs', h3, h4⟩ := Option.bind_eq_some_iff.1 h2
          obtain ⟨_, hl', hc'⟩ := World.cells?_some h3
          obtain ⟨t, f, hat⟩ := ih m (by omega) _ _ h4
          exact ⟨_, t, f, fun j hj => by simpa using hc' j hj, hat⟩
        obtain ⟨b, off, spot⟩ := a
        obtain ⟨ds, t0, _, e0, hat0⟩ := hel' 0 (by omega)
        have e00 := e0 0 (by omega)
        have h9 := Tm.size9 hat0
        rw [Array.getElem?_eq_getElem (by omega)] at e00
        have hspot : spot = none := by simpa [Addr.add] using World.cell?_spot e00
        subst hspot
        obtain ⟨ts, fp, hn, hl⟩ := atML_of (w := w) (b := b) len off (fun i hil => by
          obtain ⟨ds, t, f, d0, hat⟩ := hel' i hil
          refine ⟨ds, t, f, fun j hj => ?_, hat⟩
          have := d0 j hj
          simpa [add_plain] using this)
        subst hn
        exact ⟨.mk k nm num ty fr lb ts, _, Tm.at_mk.2 ⟨_, _, _, _, _, f1, f2, b :: fp, rfl, hns, h1, h2, rfl, .inr ⟨b, off, cap, fp, rfl, by omega, hle, Nat.le_trans hle hm, hl, rfl⟩⟩⟩
end

/-- What the row lays. -/
def laid1 : List (String × DataW Unit) := [("loop.example/gradual/impl.termForms", Rows.laid_loop_example_gradual_impl_termForms)]

/-- The door's own heap meets the condition: three closed facts. -/
theorem door_met (os : Os) (args : Array Value) : laidMetH Tryd.prog laid1 ((World.doorLaid Tryd.prog 400 os).forCall (fun _ _ => 0) ⟨#[], args, []⟩).memory :=
  laidMetH_of_parts3 (fuel := 8) (laidMet_of_run' 8 (by kernel_rfl) (by kernel_rfl)) (by kernel_rfl) (by kernel_rfl)

theorem gForms : Tryd.prog.globalNamed "loop.example/gradual/impl.termForms" = some 0 := by kernel_rfl
theorem tForms : (Tryd.prog.globals[0]?).map (·.type) = some 141 := by kernel_rfl

theorem string_of_bytes {s : ByteArray} {l : List UInt8} (h : s.data.toList = l) : s = ⟨⟨l⟩⟩ := by
  obtain ⟨⟨l'⟩⟩ := s
  subst h
  rfl

/-- What the condition gives the walks. -/
theorem forms_of_laid {W : World} (h : laidMetH Tryd.prog laid1 W) : Forms W := by
  rw [MakeChecks.laidMetH_plain _ _ _ (by kernel_rfl)] at h
  obtain ⟨ps, ⟨g0, t0, cs0, f0, p0, q0, hg0, ht0, hv0, hd0, _, _⟩, _, _⟩ := h
  obtain rfl := Option.some.inj (gForms.symm.trans hg0)
  obtain rfl := Option.some.inj (tForms.symm.trans ht0)
  obtain ⟨xs, m1, rfl, hx1, hlen, hn, hel⟩ := DataW.trod_array Tryd.underlying141 hd0
  simp only [Prod.mk.injEq] at hx1
  have hD := hx1.1
  intro j hj
  have h0 := hel j hj
  have hlt : j < xs.length := by omega
  rw [List.getElem?_eq_getElem hlt] at h0
  obtain ⟨s, e1, e2, _⟩ := DataW.trod_string Tryd.underlying9 h0
  rw [Tryd.cellsStr] at e1
  have hc := World.var?_cell hg0 hv0 j
  have h1 : cs0[j]? = some (.string s) := by
    have := congrArg (fun l => l[0]?) e1
    simpa [List.getElem?_take, List.getElem?_drop] using this
  rw [h1] at hc
  rw [hc]
  have hxj : (xs.map (·.1))[j]? = some (.lit (.string s.data.toList)) := by
    rw [List.getElem?_map, List.getElem?_eq_getElem hlt, e2]
    rfl
  have hagg : xs.map (·.1) = [.lit (.string []), .lit (.string [110]), .lit (.string [100]), .lit (.string [84]), .lit (.string [70]), .lit (.string [33, 110, 58, 116, 46, 65]), .lit (.string [40, 65, 32, 66, 41]), .lit (.string [40, 65, 43, 66, 41]), .lit (.string [40, 65, 60, 66, 41]), .lit (.string [123, 65, 63, 66, 58, 67, 125]), .lit (.string [91, 65, 44, 66, 93]), .lit (.string [36, 65]), .lit (.string [37, 65]), .lit (.string [40, 65, 58, 116, 41]), .lit (.string [40, 65, 58, 115, 126, 116, 35, 108, 41])] := by
    simp only [Rows.laid_loop_example_gradual_impl_termForms, DataW.agg.injEq] at hD
    exact hD.symm
  rw [hagg] at hxj
  have hcase : j = 0 ∨ j = 1 ∨ j = 2 ∨ j = 3 ∨ j = 4 ∨ j = 5 ∨ j = 6 ∨ j = 7 ∨ j = 8 ∨ j = 9 ∨ j = 10 ∨ j = 11 ∨ j = 12 ∨ j = 13 ∨ j = 14 := by omega
  clear hc h1 e1 e2 h0 hagg hD hx1 hel
  rcases hcase with rfl | rfl | rfl | rfl | rfl | rfl | rfl | rfl | rfl | rfl | rfl | rfl | rfl | rfl | rfl <;>
    (simp only [List.getElem?_cons_zero, List.getElem?_cons_succ, Option.some.injEq, DataW.lit.injEq, Lit.string.injEq] at hxj; rw [string_of_bytes hxj.symm]; rfl)
end Go.Proofs.YtkpgcfkhbnniiaaDoor

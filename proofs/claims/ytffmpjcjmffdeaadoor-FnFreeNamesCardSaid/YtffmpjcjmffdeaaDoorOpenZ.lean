/- The table of forms out of the row's condition, for laws whose arguments are bytes. -/
import Derived.Test.YtffmpjcjmffdeaaDoorOpenY
import Derived.Test.YtffmpjcjmffdeaaDoorNe0
import Derived.Test.YtffmpjcjmffdeaaDoorTie
import Derived.Test.YtffmpjcjmffdeaaDoorCards
import Derived.LaidMore
import Derived.Stop.Joined
import Derived.OpenVars
import Derived.SevenTiedAt
namespace Go.Proofs.YtffmpjcjmffdeaaDoor
open Go.ChangeShapes Go.WideShapes Go.ChangeAt Go.RowKit Go.Deep

theorem Tryd.cellsStr : Tryd.prog.cellsOf 9 = 1 := by kernel_rfl

/-- What the row lays. -/
def laid1 : List (String × DataW Unit) := [("loop.example/gradual/impl.termForms", Rows.laid_loop_example_gradual_impl_termForms)]

/-- The door's own heap meets the condition: three closed facts. -/
theorem door_met (os : Os) (args : Array Value) : laidMetH Tryd.prog laid1 ((World.doorLaid Tryd.prog 400 os).forCall (fun _ _ => 0) ⟨#[], args, []⟩).memory :=
  laidMetH_of_parts3 (fuel := 8) (laidMet_of_run' 8 (by kernel_rfl) (by kernel_rfl)) (by kernel_rfl) (by kernel_rfl)

theorem gForms : Tryd.prog.globalNamed "loop.example/gradual/impl.termForms" = some 0 := by kernel_rfl
theorem tForms : (Tryd.prog.globals[0]?).map (·.type) = some 150 := by kernel_rfl

theorem string_of_bytes {s : ByteArray} {l : List UInt8} (h : s.data.toList = l) : s = ⟨⟨l⟩⟩ := by
  obtain ⟨⟨l'⟩⟩ := s
  subst h
  rfl

/-- What the condition gives the walks. -/
theorem forms_of_laid {W : World} (h : laidMetH Tryd.prog laid1 W) : Forms W := by
  rw [MakeChecks.laidMetH_plain _ _ _ (by kernel_rfl)] at h
  obtain ⟨ps, ⟨g0, t0, cs0, f0, p0, q0, hg0, ht0, hv0, hd0, _, _⟩, _, _⟩ := h
  obtain rfl := Option.some.inj (gForms.symm.trans hg0)
  obtain rfl := Option.some.inj (tForms.symm.trans ht0)
  obtain ⟨xs, m1, rfl, hx1, hlen, hn, hel⟩ := DataW.trod_array Tryd.underlying150 hd0
  simp only [Prod.mk.injEq] at hx1
  have hD := hx1.1
  intro j hj
  have h0 := hel j hj
  have hlt : j < xs.length := by omega
  rw [List.getElem?_eq_getElem hlt] at h0
  obtain ⟨s, e1, e2, _⟩ := DataW.trod_string Tryd.underlying9 h0
  rw [Tryd.cellsStr] at e1
  have hc := World.var?_cell hg0 hv0 j
  have h1 : cs0[j]? = some (.string s) := by
    have := congrArg (fun l => l[0]?) e1
    simpa [List.getElem?_take, List.getElem?_drop] using this
  rw [h1] at hc
  rw [hc]
  have hxj : (xs.map (·.1))[j]? = some (.lit (.string s.data.toList)) := by
    rw [List.getElem?_map, List.getElem?_eq_getElem hlt, e2]
    rfl
  have hagg : xs.map (·.1) = [.lit (.string []), .lit (.string [110]), .lit (.string [100]), .lit (.string [84]), .lit (.string [70]), .lit (.string [33, 110, 58, 116, 46, 65]), .lit (.string [40, 65, 32, 66, 41]), .lit (.string [40, 65, 43, 66, 41]), .lit (.string [40, 65, 60, 66, 41]), .lit (.string [123, 65, 63, 66, 58, 67, 125]), .lit (.string [91, 65, 44, 66, 93]), .lit (.string [36, 65]), .lit (.string [37, 65]), .lit (.string [40, 65, 58, 116, 41]), .lit (.string [40, 65, 58, 115, 126, 116, 35, 108, 41])] := by
    simp only [Rows.laid_loop_example_gradual_impl_termForms, DataW.agg.injEq] at hD
    exact hD.symm
  rw [hagg] at hxj
  have hcase : j = 0 ∨ j = 1 ∨ j = 2 ∨ j = 3 ∨ j = 4 ∨ j = 5 ∨ j = 6 ∨ j = 7 ∨ j = 8 ∨ j = 9 ∨ j = 10 ∨ j = 11 ∨ j = 12 ∨ j = 13 ∨ j = 14 := by omega
  clear hc h1 e1 e2 h0 hagg hD hx1 hel
  rcases hcase with rfl | rfl | rfl | rfl | rfl | rfl | rfl | rfl | rfl | rfl | rfl | rfl | rfl | rfl | rfl <;>
    (simp only [List.getElem?_cons_zero, List.getElem?_cons_succ, Option.some.injEq, DataW.lit.injEq, Lit.string.injEq] at hxj; rw [string_of_bytes hxj.symm]; rfl)
end Go.Proofs.YtffmpjcjmffdeaaDoor

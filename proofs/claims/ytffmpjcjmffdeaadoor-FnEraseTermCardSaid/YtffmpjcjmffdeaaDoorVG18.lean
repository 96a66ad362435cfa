/- Draws: one string of a list (of). Draws: a source opened over an argument's bytes. An argument of bytes, opened. The table of forms out of the row's condition, for laws whose arguments are bytes. -/
import Derived.Test.YtffmpjcjmffdeaaDoorVDr1
import Derived.Lib.SmallJoins
import Derived.Deep.Fields
import Derived.ProofKit
import Derived.OpenShut
import Derived.ChangeOld
import Derived.Test.YtffmpjcjmffdeaaDoorTie
import Derived.Test.YtffmpjcjmffdeaaDoorCards
import Derived.LaidMore
import Derived.Stop.Joined
import Derived.OpenVars
import Derived.SevenTiedAt
import Derived.Test.YtffmpjcjmffdeaaDoorVG7
namespace Go.Proofs.YtffmpjcjmffdeaaDoor
open Go.RowKit

/-- What a draw of a string says. -/
def StrX (M q : Nat) (w : World) (P : ByteArray → Prop) (e : Ending) (w' : World) : Prop := ∃ s, e = .returned (.string s) ∧ P s ∧ RdAt M q w' ∧ Rw M w w'

theorem of_any (M q g : Nat) (L : List ByteArray) (w : World) (h : RdAt M q w) (hq : q ≤ 1000000) (hg : g ≠ M) (hc : ∀ j, (hj : j < L.length) → w.cell? ⟨g, j, none⟩ = some (.string L[j])) (h1 : 1 ≤ L.length) (h2 : L.length ≤ 1000) :
    Calls Tryd.prog 161 #[.pointer (some ⟨M, 0, none⟩), .slice (some ⟨g, 0, none⟩) L.length L.length] w (StrX M (q + 1) w (fun s => s ∈ L)) := by
  have HP := hid (pick_any M q (L.length : Int) w h hq (by omega) (by omega))
  have HC := hid hc
  clear hc h
  go_enter Tryd.func161, Tryd.ntmps161
  go_wp2_with fail
  refine HP.out.mono ?_
  rintro e w1 ⟨i, rfl, ⟨hi0, hi1⟩, hR, hW⟩
  obtain ⟨j, rfl⟩ : ∃ j : Nat, i = j := ⟨i.toNat, by omega⟩
  have hj : j < L.length := by omega
  have hcj := hW.cell (HC.out j hj) hg
  have HF := hid (And.intro (List.getElem_mem hj) (And.intro hR hW))
  generalize L[j] = x at *
  clear hR hW
  go_wp2_with fail
  go_ret
  exact ⟨x, rfl, HF.out.1, HF.out.2.1, HF.out.2.2⟩
end Go.Proofs.YtffmpjcjmffdeaaDoor

namespace Go.Proofs.YtffmpjcjmffdeaaDoor
open Go.RowKit

/-- An argument's bytes. -/
def BytA (w : World) (a : Option Addr) (n : Nat) : Prop := ∀ i, i < n → ∃ ad x, a = some ad ∧ ad.block < w.heap.size ∧ w.cell? (ad.add i) = some (.int .u8 x) ∧ 0 ≤ x ∧ x < 256

theorem BytA.below {w w' : World} {a : Option Addr} {n : Nat} (h : BytA w a n) (hb : Below w.heap.size w w') : BytA w' a n := fun i hi => by
  obtain ⟨ad, x, h1, h2, h3, h4⟩ := h i hi
  exact ⟨ad, x, h1, Nat.lt_of_lt_of_le h2 hb.size, (hb.cell (p := ad.add i) (by rw [add_block]; exact h2)).trans h3, h4⟩

theorem BytA.open {w : World} {a : Option Addr} {n m cap : Nat} (h : BytA w a n) (hm : m ≤ n) (hl : m ≤ 2000) : RdAt w.heap.size 0 (w.alloc (Obj.cells #[.slice a m cap, .int .i64 0] 177)) := by
  refine ⟨a, m, cap, 0, alloc_new _ _, fun i hi => ?_, hl, Nat.le_refl _⟩
  obtain ⟨ad, x, h1, h2, h3, h4⟩ := h.below ((Below.refl _ _).alloc (Nat.le_refl _) (Obj.cells #[.slice a m cap, .int .i64 0] 177)) i (by omega)
  obtain ⟨ad', x', h1', h2', _⟩ := h i (by omega)
  have : ad = ad' := Option.some.inj (h1.symm.trans h1')
  exact ⟨ad, x, h1, by rw [this]; exact h2', h3, h4⟩

set_option maxHeartbeats 1000000 in
theorem open_any (a : Option Addr) (n cap : Nat) (w : World) (hB : BytA w a n) (hn : n ≤ cap) (hm : cap ≤ maxLen) : Calls Tryd.prog 129 #[.slice a n cap] w fun e w' => e = .returned (.pointer (some ⟨w.heap.size, 0, none⟩)) ∧ RdAt w.heap.size 0 w' ∧ Below w.heap.size w w' := by
  have hmx : maxLen = 9223372036854775807 ∨ maxLen ≤ 9223372036854775807 := by unfold maxLen; omega
  have hcl : (cap : Int) ≤ 9223372036854775807 := by omega
  have hnl : (n : Int) ≤ 9223372036854775807 := by omega
  by_cases h : n ≤ 2000
  · have HO := hid (hB.open (m := n) (cap := cap) (Nat.le_refl _) h)
    have hg : ¬ (n : Int) > 2000 := by omega
    clear hB
    go_enter Tryd.func129, Tryd.ntmps129
    go_wp2_with fail
    go_ret
    exact ⟨rfl, HO.out, (Below.refl _ _).alloc (Nat.le_refl _) _⟩
  · have HO := hid (hB.open (m := 2000) (cap := cap) (by omega) (by omega))
    have hg : (n : Int) > 2000 := by omega
    obtain ⟨ad, x, rfl, _⟩ := hB 0 (by omega)
    have hc2 : 2000 ≤ cap := by omega
    clear hB
    go_enter Tryd.func129, Tryd.ntmps129
    go_wp2_with fail
    go_ret
    exact ⟨rfl, by first | exact HO.out | simpa using HO.out, (Below.refl _ _).alloc (Nat.le_refl _) _⟩

end Go.Proofs.YtffmpjcjmffdeaaDoor

namespace Go.Proofs.YtffmpjcjmffdeaaDoor
open Go.RowKit Go.ChangeShapes

theorem Tryd.cellsByte : Tryd.prog.cellsOf 5 = 1 := by kernel_rfl

theorem open_bytes {H : Type} {enc : TypeId × Value → H} {W : World} {a : Option Addr} {n cap : Nat} {d : DataW H} {p : List MemPlace}
    (h : DataW.Trod enc Tryd.prog W 0 (fun _ => true) true 55 (.slice a n cap) d p) : n ≤ cap ∧ cap ≤ maxLen ∧ BytA W a n := by
  obtain ⟨fuel, hf⟩ := h
  rcases open_ints Tryd.underlying55 Tryd.underlying5 Tryd.cellsByte hf with ⟨hcs, hx⟩ | ⟨ad, len', cap', zs, hcs, _, hl, hm, hz, hx, hcell, hwz⟩
  · simp [Value.cells] at hcs
    obtain ⟨rfl, rfl, rfl⟩ := hcs
    exact ⟨Nat.le_refl _, Nat.zero_le _, fun i hi => absurd hi (by omega)⟩
  · simp [Value.cells] at hcs
    obtain ⟨rfl, rfl, rfl⟩ := hcs
    simp only [if_true] at hz
    refine ⟨hl, hm, fun i hi => ?_⟩
    have hc := hcell i (by omega)
    have hi2 : i < zs.length := by omega
    have hw := hwz zs[i] (List.getElem_mem hi2)
    refine ⟨ad, zs[i], rfl, ?_, by rw [hc]; simp [List.getD, hi2], ?_⟩
    · have := World.block_lt_of_cell? _ _ hc
      rw [add_block] at this
      exact this
    · have e1 : IntKind.u8.min = 0 := by decide
      have e2 : IntKind.u8.max = 255 := by decide
      simp [Lit.wf] at hw
      omega
end Go.Proofs.YtffmpjcjmffdeaaDoor

namespace Go.Proofs.YtffmpjcjmffdeaaDoor
open Go.ChangeShapes Go.WideShapes Go.ChangeAt Go.RowKit Go.Deep

theorem Tryd.cellsStr : Tryd.prog.cellsOf 9 = 1 := by kernel_rfl

/-- What the row lays. -/
def laid1 : List (String × DataW Unit) := [("loop.example/gradual/impl.termForms", Rows.laid_loop_example_gradual_impl_termForms)]

/-- The door's own heap meets the condition: three closed facts. -/
theorem door_met (os : Os) (args : Array Value) : laidMetH Tryd.prog laid1 ((World.doorLaid Tryd.prog 400 os).forCall (fun _ _ => 0) ⟨#[], args, []⟩).memory :=
  laidMetH_of_parts3 (fuel := 8) (laidMet_of_run' 8 (by kernel_rfl) (by kernel_rfl)) (by kernel_rfl) (by kernel_rfl)

theorem gForms : Tryd.prog.globalNamed "loop.example/gradual/impl.termForms" = some 0 := by kernel_rfl
theorem tForms : (Tryd.prog.globals[0]?).map (·.type) = some 150 := by kernel_rfl

theorem string_of_bytes {s : ByteArray} {l : List UInt8} (h : s.data.toList = l) : s = ⟨⟨l⟩⟩ := by
  obtain ⟨⟨l'⟩⟩ := s
  subst h
  rfl

/-- What the condition gives the walks. -/
theorem forms_of_laid {W : World} (h : laidMetH Tryd.prog laid1 W) : Forms W := by
  rw [MakeChecks.laidMetH_plain _ _ _ (by kernel_rfl)] at h
  obtain ⟨ps, ⟨g0, t0, cs0, f0, p0, q0, hg0, ht0, hv0, hd0, _, _⟩, _, _⟩ := h
  obtain rfl := Option.some.inj (gForms.symm.trans hg0)
  obtain rfl := Option.some.inj (tForms.symm.trans ht0)
  obtain ⟨xs, m1, rfl, hx1, hlen, hn, hel⟩ := DataW.trod_array Tryd.underlying150 hd0
  simp only [Prod.mk.injEq] at hx1
  have hD := hx1.1
  intro j hj
  have h0 := hel j hj
  have hlt : j < xs.length := by omega
  rw [List.getElem?_eq_getElem hlt] at h0
  obtain ⟨s, e1, e2, _⟩ := DataW.trod_string Tryd.underlying9 h0
  rw [Tryd.cellsStr] at e1
  have hc := World.var?_cell hg0 hv0 j
  have h1 : cs0[j]? = some (.string s) := by
    have := congrArg (fun l => l[0]?) e1
    simpa [List.getElem?_take, List.getElem?_drop] using this
  rw [h1] at hc
  rw [hc]
  have hxj : (xs.map (·.1))[j]? = some (.lit (.string s.data.toList)) := by
    rw [List.getElem?_map, List.getElem?_eq_getElem hlt, e2]
    rfl
  have hagg : xs.map (·.1) = [.lit (.string []), .lit (.string [110]), .lit (.string [100]), .lit (.string [84]), .lit (.string [70]), .lit (.string [33, 110, 58, 116, 46, 65]), .lit (.string [40, 65, 32, 66, 41]), .lit (.string [40, 65, 43, 66, 41]), .lit (.string [40, 65, 60, 66, 41]), .lit (.string [123, 65, 63, 66, 58, 67, 125]), .lit (.string [91, 65, 44, 66, 93]), .lit (.string [36, 65]), .lit (.string [37, 65]), .lit (.string [40, 65, 58, 116, 41]), .lit (.string [40, 65, 58, 115, 126, 116, 35, 108, 41])] := by
    simp only [Rows.laid_loop_example_gradual_impl_termForms, DataW.agg.injEq] at hD
    exact hD.symm
  rw [hagg] at hxj
  have hcase : j = 0 ∨ j = 1 ∨ j = 2 ∨ j = 3 ∨ j = 4 ∨ j = 5 ∨ j = 6 ∨ j = 7 ∨ j = 8 ∨ j = 9 ∨ j = 10 ∨ j = 11 ∨ j = 12 ∨ j = 13 ∨ j = 14 := by omega
  clear hc h1 e1 e2 h0 hagg hD hx1 hel
  rcases hcase with rfl | rfl | rfl | rfl | rfl | rfl | rfl | rfl | rfl | rfl | rfl | rfl | rfl | rfl | rfl <;>
    (simp only [List.getElem?_cons_zero, List.getElem?_cons_succ, Option.some.injEq, DataW.lit.injEq, Lit.string.injEq] at hxj; rw [string_of_bytes hxj.symm]; rfl)
end Go.Proofs.YtffmpjcjmffdeaaDoor

/- Draws: one string of a list (of). -/
import Derived.Test.YtffmpjcjmffdeaaDoorDr1
namespace Go.Proofs.YtffmpjcjmffdeaaDoor
open Go.RowKit

/-- What a draw of a string says. -/
def StrX (M q : Nat) (w : World) (P : ByteArray → Prop) (e : Ending) (w' : World) : Prop := ∃ s, e = .returned (.string s) ∧ P s ∧ RdAt M q w' ∧ Rw M w w'

theorem of_any (M q g : Nat) (L : List ByteArray) (w : World) (h : RdAt M q w) (hq : q ≤ 1000000) (hg : g ≠ M) (hc : ∀ j, (hj : j < L.length) → w.cell? ⟨g, j, none⟩ = some (.string L[j])) (h1 : 1 ≤ L.length) (h2 : L.length ≤ 1000) :
    Calls Tryd.prog 161 #[.pointer (some ⟨M, 0, none⟩), .slice (some ⟨g, 0, none⟩) L.length L.length] w (StrX M (q + 1) w (fun s => s ∈ L)) := by
  have HP := hid (pick_any M q (L.length : Int) w h hq (by omega) (by omega))
  have HC := hid hc
  clear hc h
  go_enter Tryd.func161, Tryd.ntmps161
  go_wp2_with fail
  refine HP.out.mono ?_
  rintro e w1 ⟨i, rfl, ⟨hi0, hi1⟩, hR, hW⟩
  obtain ⟨j, rfl⟩ : ∃ j : Nat, i = j := ⟨i.toNat, by omega⟩
  have hj : j < L.length := by omega
  have hcj := hW.cell (HC.out j hj) hg
  have HF := hid (And.intro (List.getElem_mem hj) (And.intro hR hW))
  generalize L[j] = x at *
  clear hR hW
  go_wp2_with fail
  go_ret
  exact ⟨x, rfl, HF.out.1, HF.out.2.1, HF.out.2.2⟩
end Go.Proofs.YtffmpjcjmffdeaaDoor

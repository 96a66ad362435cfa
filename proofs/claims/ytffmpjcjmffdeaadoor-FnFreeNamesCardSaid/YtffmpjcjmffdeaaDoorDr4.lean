/- Draws: l1Blur. -/
import Derived.Test.YtffmpjcjmffdeaaDoorDr3
import Derived.Test.YtffmpjcjmffdeaaDoorRgL
import Derived.Deep.RegionLaw
namespace Go.Proofs.YtffmpjcjmffdeaaDoor
open Go.RowKit

theorem cntL_app : ∀ (a b : List Ty), cntL (a ++ b) = cntL a + cntL b
  | [], b => by simp [cntL]
  | t :: a, b => by simp only [List.cons_append, cntL, cntL_app a b]; omega

theorem cntL_take_le : ∀ (ts : List Ty) (j : Nat), cntL (ts.take j) ≤ cntL ts
  | [], j => by simp
  | t :: ts, 0 => by simp [cntL]
  | t :: ts, j + 1 => by have := cntL_take_le ts j; simp only [List.take_succ_cons, cntL]; omega

theorem SlAt.in_fp {w : World} {ts : List Ty} {b o n cap : Nat} {fp : List Nat} (h : SlAt w ts (.slice (some ⟨b, o, none⟩) n cap) fp) (hp : 0 < ts.length) : b ∈ fp := by
  rcases h with ⟨rfl, _, _⟩ | ⟨b', o', cap', f, e, _, _, _, _, rfl⟩
  · simp at hp
  · cases e
    simp

end Go.Proofs.YtffmpjcjmffdeaaDoor

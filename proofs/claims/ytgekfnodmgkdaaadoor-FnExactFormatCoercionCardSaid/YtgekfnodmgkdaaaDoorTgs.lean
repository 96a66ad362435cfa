/- The tag of a coercion: the specification's l6Tag. -/
import Derived.Test.YtgekfnodmgkdaaaDoorCp
namespace Go.Proofs.YtgekfnodmgkdaaaDoor
open Go.RowKit

/-- A chain of injections ends. -/
def tagWf : Nat → Co → Bool
  | 0, _ => false
  | d + 1, .mk k _ _ ts => if k = 4 then (match ts with | [t] => tagWf d t | _ => false) else true

theorem tagWf_shp : ∀ {d : Nat} {t : Co}, shpK d t = true → tagWf d t = true
  | 0, _, h => by simp [shpK] at h
  | d + 1, .mk k g l ts, h => by
    obtain ⟨hn, hs⟩ := shpK_node h
    by_cases h4 : k = 4
    · rcases nodeC_cases hn with ⟨h, _⟩ | ⟨h, _⟩ | ⟨h, _⟩ | ⟨_, _, _, a, rfl, _⟩ | ⟨h, _⟩ | ⟨h, _⟩
      any_goals omega
      simp only [tagWf, if_pos h4]
      exact tagWf_shp (hs a (by simp))
    · simp [tagWf, h4]

end Go.Proofs.YtgekfnodmgkdaaaDoor

/- The blocks of a tree are blocks of cells. -/
import Derived.Test.YtelbpgdlcnnabaaTsm
namespace Go.Proofs.Ytelbpgdlcnnabaa
open Go.RowKit

theorem cell_raw {w : World} {b o : Nat} {u : Value} (h : w.cell? ⟨b, o, none⟩ = some u) : ∃ C T fz, w.heap[b]? = some (.cells C T fz) := by
  unfold World.cell? at h
  split at h
  · exact ⟨_, _, _, by assumption⟩
  · cases h

mutual
theorem Ty.At.laid {w : World} : ∀ {t : Ty} {v : Value} {fp : List Nat}, Ty.At w t v fp → ∀ b ∈ fp, ∃ C T fz, w.heap[b]? = some (.cells C T fz)
  | .mk k ts, v, fp, h => by
    obtain ⟨s, hv, h⟩ := h
    rcases h with ⟨_, rfl, _⟩ | ⟨b, o, cap, f, hs, hp, hc, hm, hl, rfl⟩
    · simp
    · intro x hx
      rcases List.mem_cons.1 hx with rfl | hx
      · cases ts with
        | nil => simp at hp
        | cons t ts =>
          obtain ⟨v0, v1, f1, f2, c0, _⟩ := hl
          exact cell_raw c0
      · exact Ty.AtL.laid hl x hx
theorem Ty.AtL.laid {w : World} : ∀ {ts : List Ty} {b o : Nat} {fp : List Nat}, Ty.AtL w ts b o fp → ∀ b ∈ fp, ∃ C T fz, w.heap[b]? = some (.cells C T fz)
  | [], _, _, _, h => by cases h; simp
  | t :: ts, b, o, fp, h => by
    obtain ⟨v0, v1, f1, f2, c0, c1, ha, hl, rfl⟩ := h
    intro x hx
    rcases List.mem_append.1 hx with hx | hx
    · exact Ty.At.laid ha x hx
    · exact Ty.AtL.laid hl x hx
end

end Go.Proofs.Ytelbpgdlcnnabaa

/- StaticTerm, of the specification and of the program. -/
import Derived.Test.YtdehhobpfaaboaaDoorTysS
import Derived.Test.YtdehhobpfaaboaaDoorTysT
import Derived.Test.YtdehhobpfaaboaaDoorSta
namespace Go.Proofs.YtdehhobpfaaboaaDoor
open Go.RowKit

def zer (u : Ty) : Bool := cntAny u == 0
def staM (t : Tm) : Bool := vldM t && (tyLst t).all zer

theorem mem_tysL : ∀ {ts : List Tm} {u : Ty}, u ∈ tysL ts → ∃ t ∈ ts, u ∈ tysOf t
  | t :: ts, u, h => by
    simp only [tysL] at h
    rcases List.mem_append.1 h with h | h
    · exact ⟨t, by simp, h⟩
    · obtain ⟨t', ht, hu⟩ := mem_tysL h
      exact ⟨t', by simp [ht], hu⟩

theorem tysOf_cnt : ∀ (t : Tm) (u : Ty), u ∈ tysOf t → u.cnt ≤ t.sz := Tm.ind fun k nm num ty fr lb ts ih u h => by
  simp only [tysOf] at h
  simp only [Tm.sz]
  rcases List.mem_append.1 h with h | h
  · have : u = ty := by
      split at h
      · simpa using h
      · cases h
    subst this
    omega
  · obtain ⟨t, ht, hu⟩ := mem_tysL h
    have := ih t ht u hu
    have := sz_mem ht
    omega

theorem tysOf_vld : ∀ (d : Nat) (t : Tm), shpM d t = true → ∀ u ∈ tysOf t, vld u = true
  | 0, _, h => by simp [shpM] at h
  | d + 1, .mk k nm num ty fr lb ts, h => by
    intro u hu
    simp only [shpM, Bool.and_eq_true, List.all_eq_true] at h
    obtain ⟨⟨⟨_, _⟩, ho⟩, hk⟩ := h
    simp only [tysOf] at hu
    rcases List.mem_append.1 hu with hu | hu
    · simp only [ownM, Bool.and_eq_true] at ho
      split at hu
      · rename_i hk5
        have := ho.1.1.2
        rw [if_pos (by omega)] at this
        have e : u = ty := by simpa using hu
        rw [e]; exact this
      · cases hu
    · obtain ⟨t, ht, hu⟩ := mem_tysL hu
      exact tysOf_vld d t (hk t ht) u hu

theorem tyLst_in {t : Tm} {u : Ty} (h : u ∈ tyLst t) : vldM t = true ∧ u ∈ tysOf t := by
  unfold tyLst at h
  split at h
  · exact ⟨by assumption, h⟩
  · cases h

theorem zer_take {L : List Ty} {k : Nat} (h : k < L.length) : (L.take (k + 1)).all zer = ((L.take k).all zer && zer L[k]) := by
  rw [List.take_succ_eq_append_getElem h, List.all_append]
  simp

theorem zer_false {L : List Ty} {k : Nat} (h : k < L.length) (hb : zer L[k] = false) : L.all zer = false := by
  rw [List.all_eq_false]
  exact ⟨L[k], List.getElem_mem h, by simp [hb]⟩

end Go.Proofs.YtdehhobpfaaboaaDoor

/- The specification's l3Type, whole. -/
import Derived.Test.YtffmpjcjmffdeaaDoorQTs5
namespace Go.Proofs.YtffmpjcjmffdeaaDoor
open Go.RowKit

theorem tyC : ∀ d, TyC d
  | 0 => by
    intro t xs s v fs fe w h
    simp [shpM] at h
  | d + 1 => by
    intro t xs s v fs fe w h hs hat hx hn
    obtain ⟨k, nm, num, ty, fr, lb, ts⟩ := t
    simp only [shpM, Bool.and_eq_true, beq_iff_eq, bne_iff_ne, List.all_eq_true] at h
    obtain ⟨⟨⟨h1, h2⟩, h3⟩, h4⟩ := h
    simp only [ownM, Bool.and_eq_true] at h3
    have hv : k = 5 ∨ k = 13 → vld ty = true := fun hk => by
      have h5 := h3.1.1.2
      rw [if_pos (by rcases hk with h | h <;> simp [h])] at h5
      exact h5
    have hr : 1 ≤ k ∧ k ≤ 13 ∧ ts.length ≤ 3 := by
      unfold kidsM at h1
      refine ⟨?_, ?_, ?_⟩ <;> (repeat' split at h1) <;> omega
    by_cases hk1 : k = 1
    · subst hk1
      have e : tyM xs.reverse (.mk 1 nm num ty fr lb ts) = look xs.reverse nm := by
        have : ts = [] := List.eq_nil_of_length_eq_zero (by have : kidsM 1 = 0 := (by decide); omega)
        subst this; rfl
      rw [e]; exact ty_1 nm num ty fr lb ts xs s v fs fe w hs hat (fun x hm => shp_cnt8 (hx x hm) (by omega))
    by_cases hk2 : k = 2
    · subst hk2
      have e : tyM xs.reverse (.mk 2 nm num ty fr lb ts) = some (.mk 2 []) := by
        have : ts = [] := List.eq_nil_of_length_eq_zero (by have : kidsM 2 = 0 := (by decide); omega)
        subst this; rfl
      rw [e]; exact ty_2 nm num ty fr lb ts s v fe w hat
    by_cases hk3 : k = 3
    · subst hk3
      have e : tyM xs.reverse (.mk 3 nm num ty fr lb ts) = some (.mk 3 []) := by
        have : ts = [] := List.eq_nil_of_length_eq_zero (by have : kidsM 3 = 0 := (by decide); omega)
        subst this; rfl
      rw [e]; exact ty_3 nm num ty fr lb ts s v fe w hat
    by_cases hk4 : k = 4
    · subst hk4
      have e : tyM xs.reverse (.mk 4 nm num ty fr lb ts) = some (.mk 3 []) := by
        have : ts = [] := List.eq_nil_of_length_eq_zero (by have : kidsM 4 = 0 := (by decide); omega)
        subst this; rfl
      rw [e]; exact ty_4 nm num ty fr lb ts s v fe w hat
    by_cases hk5 : k = 5
    · subst hk5
      exact ty_5 (tyC d) nm num ty fr lb ts xs s v fs fe w hs hat (by have : kidsM 5 = 1 := (by decide); omega) h4 (hv (.inl rfl)) hx (by omega)
    exact ty_node (tyC d) k (by omega) hr.2.1 nm num ty fr lb ts xs s v fs fe w hs hat h1 hr.2.2 h4 (fun e => hv (.inr e)) hx (by omega)
end Go.Proofs.YtffmpjcjmffdeaaDoor

/- Meets absorb joins, plainly. -/
import Derived.Test.YtelbpgdlcnnabaaMsP
namespace Go.Proofs.Ytelbpgdlcnnabaa
open Go.RowKit

mutual
theorem join_cnt8 : ∀ t u : Ty, (join t u).cnt ≤ t.cnt + u.cnt
  | .mk k ts, .mk k' us => by
    have := joinL_cnt8 ts us
    simp only [join]
    split
    · simp only [Ty.cnt]
      omega
    · simp [Ty.cnt, cntL]
theorem joinL_cnt8 : ∀ ts us : List Ty, (joinL ts us).length ≤ ts.length ∧ cntL (joinL ts us) ≤ cntL ts + cntL us
  | [], _ => by simp [joinL, cntL]
  | _ :: _, [] => by simp [joinL, cntL]
  | t :: ts, u :: us => by
    have h1 := join_cnt8 t u
    have h2 := joinL_cnt8 ts us
    simp only [joinL, cntL, List.length_cons]
    omega
end

theorem join_diff {a b : Ty} (h : kindT a ≠ kindT b) : join a b = .mk 1 [] := by
  obtain ⟨k, ts, rfl⟩ := a.shape
  obtain ⟨k', us, rfl⟩ := b.shape
  have hk : k ≠ k' := h
  simp [join, hk]

theorem meet_unk (a : Ty) {d : Nat} (ha : shp (d + 1) a = true) : meet a (.mk 1 []) = a := by
  by_cases h : kindT a = 1
  · rw [any_only9 ha h, meet_any1]
  · exact meet_any2 h

theorem join_pure : ∀ (d : Nat) (a b : Ty), shp d a = true → shp d b = true → shp d (join a b) = true ∧ cons a (join a b) = true ∧ cons b (join a b) = true ∧ meet a (join a b) = a
  | 0, a, _, ha, _ => by simp [shp] at ha
  | d + 1, a, b, ha, hb => by
    by_cases hkk : kindT a = kindT b
    · rcases rel_cases ha hb with h1 | h1 | ⟨h1, h2, h3⟩ | ⟨h1, h2, hs⟩
      · rw [any_only9 ha h1, any_only9 hb (by omega)]
        have e : join (.mk 1 []) (.mk 1 []) = .mk 1 [] := by simp [join, joinL]
        rw [e]
        exact ⟨by rw [← any_only9 ha h1]; exact ha, cons_any (.inl rfl), cons_any (.inl rfl), meet_any1 _⟩
      · rw [any_only9 ha (by omega), any_only9 hb h1]
        have e : join (.mk 1 []) (.mk 1 []) = .mk 1 [] := by simp [join, joinL]
        rw [e]
        exact ⟨by rw [← any_only9 hb h1]; exact hb, cons_any (.inl rfl), cons_any (.inl rfl), meet_any1 _⟩
      · exact absurd hkk h3
      · cases hs with
        | leaf k hk =>
          have e : join (.mk k []) (.mk k []) = .mk k [] := by simp [join, joinL]
          rw [e]
          exact ⟨ha, cons_leaf, cons_leaf, meet_leaf (show k ≠ 1 by omega)⟩
        | two k x y x' y' hk hx hy hx' hy' =>
          have e : join (.mk k [x, y]) (.mk k [x', y']) = .mk k [join x x', join y y'] := by simp [join, joinL]
          obtain ⟨a1, a2, a3, a4⟩ := join_pure d _ _ hx hx'
          obtain ⟨b1, b2, b3, b4⟩ := join_pure d _ _ hy hy'
          rw [e, cons_two hk, cons_two hk, meet_two (show k ≠ 1 by omega), a2, a3, a4, b2, b3, b4]
          refine ⟨?_, rfl, rfl, rfl⟩
          simp only [shp, Bool.and_eq_true, beq_iff_eq, List.all_eq_true, List.length_cons, List.length_nil] at ha ⊢
          exact ⟨ha.1, fun t ht => by
            simp only [List.mem_cons, List.not_mem_nil, or_false] at ht
            rcases ht with rfl | rfl
            · exact a1
            · exact b1⟩
    · rw [join_diff hkk]
      exact ⟨shp_any8 ha, cons_any (.inr rfl), cons_any (.inr rfl), meet_unk a ha⟩

theorem mj_pure (a b : Ty) (h : (vld a && vld b) = true) : meetOf a (joinOf a b) = a ∧ consOf a (joinOf a b) = true ∧ consOf b (joinOf a b) = true := by
  have hj : joinOf a b = join a b := by unfold joinOf; rw [if_pos h]
  simp only [Bool.and_eq_true] at h
  obtain ⟨h1, h2, h3, h4⟩ := join_pure 4 a b h.1 h.2
  have hv : vld (join a b) = true := h1
  have hc : consOf a (join a b) = true := by unfold consOf; rw [h.1, hv, h2]; rfl
  rw [hj]
  exact ⟨by unfold meetOf; rw [if_pos hc, h4], hc, by unfold consOf; rw [h.2, hv, h3]; rfl⟩

theorem joinOf_cnt (a b : Ty) : (joinOf a b).cnt ≤ a.cnt + b.cnt := by
  unfold joinOf
  split
  · exact join_cnt8 a b
  · simp [Ty.cnt, cntL]

end Go.Proofs.Ytelbpgdlcnnabaa

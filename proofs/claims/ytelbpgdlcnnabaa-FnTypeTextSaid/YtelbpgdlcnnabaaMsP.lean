/- Meets, plainly: static types, and the number of unknowns. -/
import Derived.Test.YtelbpgdlcnnabaaDpP
import Derived.Test.YtelbpgdlcnnabaaMeetI
import Derived.Test.YtelbpgdlcnnabaaAny
import Derived.Test.YtelbpgdlcnnabaaStat
namespace Go.Proofs.Ytelbpgdlcnnabaa
open Go.RowKit

mutual
theorem meet_cnt8 : ∀ t u : Ty, (meet t u).cnt ≤ t.cnt + u.cnt
  | .mk k ts, .mk k' us => by
    have := meetL_cnt8 ts us
    simp only [meet]
    split
    · omega
    · split
      · omega
      · simp only [Ty.cnt]
        omega
theorem meetL_cnt8 : ∀ ts us : List Ty, (meetL ts us).length ≤ ts.length ∧ cntL (meetL ts us) ≤ cntL ts + cntL us
  | [], _ => by simp [meetL, cntL]
  | _ :: _, [] => by simp [meetL, cntL]
  | t :: ts, u :: us => by
    have h1 := meet_cnt8 t u
    have h2 := meetL_cnt8 ts us
    simp only [meetL, cntL, List.length_cons]
    omega
end

theorem meet_any1 (b : Ty) : meet (.mk 1 []) b = b := by
  obtain ⟨k, ts, rfl⟩ := b.shape
  simp [meet]

theorem meet_any2 {a : Ty} (h : kindT a ≠ 1) : meet a (.mk 1 []) = a := by
  obtain ⟨k, ts, rfl⟩ := a.shape
  have hk : k ≠ 1 := h
  simp [meet, hk]

theorem meet_two {k : Int} (hk : k ≠ 1) (x y x' y' : Ty) : meet (.mk k [x, y]) (.mk k [x', y']) = .mk k [meet x x', meet y y'] := by
  simp [meet, meetL, hk]

theorem meet_leaf {k : Int} (hk : k ≠ 1) : meet (.mk k []) (.mk k []) = .mk k [] := by
  simp [meet, meetL, hk]

theorem meet_pure : ∀ (d : Nat) (a b : Ty), shp d a = true → shp d b = true → cons a b = true → (cntAny a = 0 → meet a b = a) ∧ (cntAny b = 0 → meet a b = b) ∧ cntAny (meet a b) ≤ cntAny a + cntAny b
  | 0, a, _, ha, _, _ => by simp [shp] at ha
  | d + 1, a, b, ha, hb, h => by
    have na := (cntAny_bd a).1
    have nb := (cntAny_bd b).1
    rcases rel_cases ha hb with h1 | h1 | ⟨h1, h2, h3⟩ | ⟨h1, h2, hs⟩
    · rw [any_only9 ha h1] at na ⊢
      rw [meet_any1]
      refine ⟨fun h0 => ?_, fun _ => rfl, by omega⟩
      simp [cntAny] at h0
    · by_cases hk : kindT a = 1
      · rw [any_only9 ha hk] at na ⊢
        rw [meet_any1]
        refine ⟨fun h0 => ?_, fun _ => rfl, by omega⟩
        simp [cntAny] at h0
      · rw [any_only9 hb h1] at nb ⊢
        rw [meet_any2 hk]
        refine ⟨fun _ => rfl, fun h0 => ?_, by omega⟩
        simp [cntAny] at h0
    · rw [cons_diff h1 h2 h3] at h
      cases h
    · cases hs with
      | leaf k hk =>
        rw [meet_leaf (show k ≠ 1 by omega)]
        exact ⟨fun _ => rfl, fun _ => rfl, by omega⟩
      | two k x y x' y' hk hx hy hx' hy' =>
        rw [cons_two hk, Bool.and_eq_true] at h
        have hk1 : k ≠ 1 := by omega
        obtain ⟨a1, a2, a3⟩ := meet_pure d _ _ hx hx' h.1
        obtain ⟨b1, b2, b3⟩ := meet_pure d _ _ hy hy' h.2
        have n1 := (cntAny_bd x).1
        have n2 := (cntAny_bd y).1
        have n3 := (cntAny_bd x').1
        have n4 := (cntAny_bd y').1
        rw [meet_two hk1]
        simp only [cntAny, cntAnyL, if_neg hk1]
        exact ⟨fun h0 => by rw [a1 (by omega), b1 (by omega)], fun h0 => by rw [a2 (by omega), b2 (by omega)], by omega⟩

theorem ms_pure (a b : Ty) (h : consOf a b = true) : (staOf a = true → tyEq (meetOf a b) a = true) ∧ (staOf b = true → tyEq (meetOf a b) b = true) ∧ anyOf (meetOf a b) ≤ anyOf a + anyOf b := by
  have hc := h
  simp only [consOf, Bool.and_eq_true] at h
  obtain ⟨⟨ha, hb⟩, hk⟩ := h
  obtain ⟨h1, h2, h3⟩ := meet_pure 4 a b ha hb hk
  have hm : meetOf a b = meet a b := by unfold meetOf; rw [if_pos hc]
  rw [hm]
  have n1 := (cntAny_bd a).1
  have n2 := (cntAny_bd b).1
  refine ⟨fun hs => ?_, fun hs => ?_, ?_⟩
  · simp only [staOf, Bool.and_eq_true, beq_iff_eq] at hs
    rw [h1 hs.2]; exact tyEq_refl a
  · simp only [staOf, Bool.and_eq_true, beq_iff_eq] at hs
    rw [h2 hs.2]; exact tyEq_refl b
  · simp only [anyOf, ha, hb, if_true]
    split <;> omega

theorem meetOf_cnt (a b : Ty) : (meetOf a b).cnt ≤ a.cnt + b.cnt := by
  unfold meetOf
  split
  · exact meet_cnt8 a b
  · simp [Ty.cnt, cntL]

theorem anyOf_bd (a : Ty) : 0 ≤ anyOf a ∧ anyOf a ≤ a.cnt + 1 := by
  have := cntAny_bd a
  unfold anyOf
  split <;> omega

end Go.Proofs.Ytelbpgdlcnnabaa

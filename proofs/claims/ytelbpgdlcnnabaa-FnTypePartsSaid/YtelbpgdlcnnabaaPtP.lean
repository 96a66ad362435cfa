/- Types are trees, plainly: depth, number of unknowns, static types of a function type. -/
import Derived.Test.YtelbpgdlcnnabaaDlP
import Derived.Test.YtelbpgdlcnnabaaDr3
import Derived.Test.YtelbpgdlcnnabaaAny
import Derived.Test.YtelbpgdlcnnabaaStat
namespace Go.Proofs.Ytelbpgdlcnnabaa
open Go.RowKit

theorem depOf_bd (a : Ty) : 0 ≤ depOf a ∧ depOf a ≤ 4 := by
  unfold depOf
  split
  · next h => exact ⟨by have := (dep_bd a).1; omega, dep_shp 4 a h⟩
  · exact ⟨by omega, by omega⟩

theorem any_bd (a : Ty) : 0 ≤ anyOf a ∧ anyOf a ≤ 31 := by
  unfold anyOf
  split
  · next h =>
    have h1 := cntAny_bd a
    have h2 := cnt_shp4 (t := a) h
    omega
  · exact ⟨by omega, by omega⟩

theorem shp_up9 : ∀ (d : Nat) (t : Ty), shp d t = true → shp (d + 1) t = true
  | 0, _, h => by simp [shp] at h
  | d + 1, .mk k ts, h => by
    simp only [shp, Bool.and_eq_true, List.all_eq_true] at h ⊢
    exact ⟨h.1, fun t ht => shp_up9 d t (h.2 t ht)⟩

theorem parts_vld (a b : Ty) (h : vld (.mk 4 [a, b]) = true) : vld a = true ∧ vld b = true := by
  have h' : shp 4 (.mk 4 [a, b]) = true := h
  simp only [shp, List.all_cons, List.all_nil, Bool.and_true, Bool.and_eq_true] at h'
  exact ⟨shp_up9 3 a (by simpa only [shp] using h'.2.1), shp_up9 3 b (by simpa only [shp] using h'.2.2)⟩

theorem parts_dep (a b : Ty) (h : vld (.mk 4 [a, b]) = true) : depOf (.mk 4 [a, b]) = (if depOf a < depOf b then depOf b else depOf a) + 1 := by
  obtain ⟨ha, hb⟩ := parts_vld a b h
  have h1 := (dep_bd a).1
  have h2 := (dep_bd b).1
  simp only [depOf, ha, hb, h, if_true]
  simp only [dep, depL]
  split <;> omega

theorem parts_any (a b : Ty) (h : vld (.mk 4 [a, b]) = true) : anyOf (.mk 4 [a, b]) = anyOf a + anyOf b := by
  obtain ⟨ha, hb⟩ := parts_vld a b h
  simp only [anyOf, ha, hb, h, if_true]
  simp [cntAny, cntAnyL]

theorem parts_sta (a b : Ty) (h : vld (.mk 4 [a, b]) = true) : staOf (.mk 4 [a, b]) = (staOf a && staOf b) := by
  obtain ⟨ha, hb⟩ := parts_vld a b h
  have n1 := (cntAny_bd a).1
  have n2 := (cntAny_bd b).1
  simp only [staOf, ha, hb, h, Bool.true_and]
  have e : cntAny (.mk 4 [a, b]) = cntAny a + cntAny b := by simp [cntAny, cntAnyL]
  rw [e, Bool.eq_iff_iff]
  simp only [Bool.and_eq_true, beq_iff_eq]
  omega
end Go.Proofs.Ytelbpgdlcnnabaa

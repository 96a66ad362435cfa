/- The document's chapter 6 as plain functions on coercions. -/
import Derived.Test.YtgiimijooabioaaCo
import Derived.Test.YtgiimijooabioaaPkA
namespace Go.Proofs.Ytgiimijooabioaa
open Go.RowKit

def plainC : Co → Bool
  | .mk k g _ _ => k == 2 || k == 3 || k == 1 && g != 1

def unkC : Co → Bool
  | .mk k g _ _ => k == 5 || k == 1 && g == 1

/-- A node is right but for what lies below it. -/
def nodeC (k g l : Int) (ts : List Co) : Bool :=
  if k = 1 then ts.length == 0 && l == 0 && (decide (1 ≤ g) && decide (g ≤ 3))
  else if k = 2 ∨ k = 3 then ts.length == 2 && l == 0 && g == 0
  else if k = 4 then ts.length == 1 && l == 0 && g == 0 && ts.all plainC
  else if k = 5 then ts.length == 1 && isLb l && g == 0 && ts.all (fun t => !unkC t)
  else if k = 6 then ts.length == 0 && isLb l && (decide (2 ≤ g) && decide (g ≤ 5))
  else false

def shpK : Nat → Co → Bool
  | 0, _ => false
  | d + 1, .mk k g l ts => nodeC k g l ts && ts.all (shpK d)

/-- The document's CoercionValid. -/
def vldK (t : Co) : Bool := shpK 9 t

mutual
def tagC : Co → Int
  | .mk k g _ ts => if k = 2 then 4 else if k = 3 then 5 else if k = 4 then tagL ts else g
def tagL : List Co → Int
  | [] => 0
  | t :: _ => tagC t
end

mutual
def hgt : Co → Int
  | .mk k _ _ ts => if k = 4 ∨ k = 5 then hgtL ts else hgtL ts + 1
def hgtL : List Co → Int
  | [] => 0
  | t :: ts => max (hgt t) (hgtL ts)
end

mutual
theorem hgt_bd : ∀ t : Co, 0 ≤ hgt t ∧ hgt t ≤ t.cnt + 1
  | .mk k g l ts => by
    have := hgtL_bd ts
    simp only [hgt, Co.cnt]
    split <;> omega
theorem hgtL_bd : ∀ ts : List Co, 0 ≤ hgtL ts ∧ hgtL ts ≤ ccntL ts + ts.length
  | [] => by simp [hgtL]
  | t :: ts => by
    have h1 := hgt_bd t
    have h2 := hgtL_bd ts
    simp only [hgtL, ccntL, List.length_cons]
    omega
end

theorem hgtL_snoc : ∀ (ts : List Co) (t : Co), hgtL (ts ++ [t]) = max (hgtL ts) (hgt t)
  | [], t => by
    have := (hgt_bd t).1
    simp only [List.nil_append, hgtL]
    omega
  | u :: ts, t => by
    simp only [List.cons_append, hgtL, hgtL_snoc ts t]
    omega

mutual
/-- Identities, functions and pairs only. -/
def idC : Co → Bool
  | .mk k _ _ ts => (k == 1 || (k == 2 || k == 3)) && idL ts
def idL : List Co → Bool
  | [] => true
  | t :: ts => idC t && idL ts
end

theorem idL_all : ∀ ts : List Co, idL ts = ts.all idC
  | [] => rfl
  | t :: ts => by simp only [idL, List.all_cons, idL_all ts]

theorem shpK_all {d : Nat} {ts : List Co} {k : Nat} (h : k < ts.length) : (ts.drop k).all (shpK d) = (shpK d ts[k] && (ts.drop (k + 1)).all (shpK d)) := by
  rw [List.drop_eq_getElem_cons h, List.all_cons]

theorem shpK_up : ∀ {d e : Nat} {t : Co}, d ≤ e → shpK d t = true → shpK e t = true
  | 0, _, _, _, h => by simp [shpK] at h
  | d + 1, 0, _, hde, _ => by omega
  | d + 1, e + 1, .mk k g l ts, hde, h => by
    simp only [shpK, Bool.and_eq_true, List.all_eq_true] at h ⊢
    exact ⟨h.1, fun t ht => shpK_up (by omega) (h.2 t ht)⟩

theorem shpK_node {d : Nat} {k g l : Int} {ts : List Co} (h : shpK (d + 1) (.mk k g l ts) = true) : nodeC k g l ts = true ∧ ∀ t ∈ ts, shpK d t = true := by
  simpa only [shpK, Bool.and_eq_true, List.all_eq_true] using h

/-- What a right node looks like. -/
theorem nodeC_cases {k g l : Int} {ts : List Co} (h : nodeC k g l ts = true) :
    (k = 1 ∧ ts = [] ∧ l = 0 ∧ 1 ≤ g ∧ g ≤ 3) ∨ (k = 2 ∧ g = 0 ∧ l = 0 ∧ ∃ a b, ts = [a, b]) ∨ (k = 3 ∧ g = 0 ∧ l = 0 ∧ ∃ a b, ts = [a, b]) ∨
    (k = 4 ∧ g = 0 ∧ l = 0 ∧ ∃ a, ts = [a] ∧ plainC a = true) ∨ (k = 5 ∧ g = 0 ∧ isLb l = true ∧ ∃ a, ts = [a] ∧ unkC a = false) ∨ (k = 6 ∧ ts = [] ∧ isLb l = true ∧ 2 ≤ g ∧ g ≤ 5) := by
  unfold nodeC at h
  by_cases h1 : k = 1
  · subst h1
    simp [List.length_eq_zero_iff] at h
    exact .inl ⟨rfl, h.1.1, h.1.2, h.2.1, h.2.2⟩
  rw [if_neg h1] at h
  by_cases h2 : k = 2 ∨ k = 3
  · rw [if_pos h2] at h
    simp only [Bool.and_eq_true, beq_iff_eq] at h
    obtain ⟨⟨hl, rfl⟩, rfl⟩ := h
    match ts, hl with
    | [a, b], _ => rcases h2 with rfl | rfl
                   · exact .inr (.inl ⟨rfl, rfl, rfl, a, b, rfl⟩)
                   · exact .inr (.inr (.inl ⟨rfl, rfl, rfl, a, b, rfl⟩))
  rw [if_neg h2] at h
  by_cases h4 : k = 4
  · subst h4
    simp only [if_true, Bool.and_eq_true, beq_iff_eq] at h
    obtain ⟨⟨⟨hl, rfl⟩, rfl⟩, ha⟩ := h
    match ts, hl with
    | [a], _ => exact .inr (.inr (.inr (.inl ⟨rfl, rfl, rfl, a, rfl, by simpa using ha⟩)))
  rw [if_neg h4] at h
  by_cases h5 : k = 5
  · subst h5
    simp only [if_true, Bool.and_eq_true, beq_iff_eq] at h
    obtain ⟨⟨⟨hl, hb⟩, rfl⟩, ha⟩ := h
    match ts, hl with
    | [a], _ => exact .inr (.inr (.inr (.inr (.inl ⟨rfl, rfl, hb, a, rfl, by simpa using ha⟩))))
  rw [if_neg h5] at h
  by_cases h6 : k = 6
  · subst h6
    simp only [if_true, Bool.and_eq_true, beq_iff_eq, decide_eq_true_eq, List.length_eq_zero_iff] at h
    exact .inr (.inr (.inr (.inr (.inr ⟨rfl, h.1.1, h.1.2, h.2.1, h.2.2⟩))))
  rw [if_neg h6] at h
  cases h

end Go.Proofs.Ytgiimijooabioaa

/- Coercions of casts, what a coercion leads to, and composition, as plain functions. -/
import Derived.Test.YtgekfnodmgkdaaaCp
import Derived.Test.YtgekfnodmgkdaaaGk
namespace Go.Proofs.Ytgekfnodmgkdaaa
open Go.RowKit

theorem shpK_tag : ∀ {d : Nat} {t : Co}, shpK d t = true → unkC t = false → 2 ≤ tagC t ∧ tagC t ≤ 5
  | 0, _, h, _ => by simp [shpK] at h
  | d + 1, .mk k g l ts, h, hu => by
    obtain ⟨hn, hs⟩ := shpK_node h
    rcases nodeC_cases hn with ⟨rfl, rfl, rfl, h1, h2⟩ | ⟨rfl, rfl, rfl, a, b, rfl⟩ | ⟨rfl, rfl, rfl, a, b, rfl⟩ | ⟨rfl, rfl, rfl, a, rfl, hp⟩ | ⟨rfl, rfl, hl, a, rfl, hp⟩ | ⟨rfl, rfl, hl, h1, h2⟩
    · simp [unkC] at hu
      simp [tagC]
      omega
    · simp [tagC]
    · simp [tagC]
    · have hu' : unkC a = false := by
        obtain ⟨ka, ga, la, ta, rfl⟩ := a.shape
        simp only [plainC, unkC] at hp ⊢
        simp at hp ⊢
        omega
      have := shpK_tag (hs a (by simp)) hu'
      simpa [tagC, tagL] using this
    · simp [unkC] at hu
    · simp [tagC]
      omega

def kidsT' : Ty → List Ty
  | .mk _ ts => ts

/-- The coercion leads from the one type to the other. -/
def typC : Nat → Co → Ty → Ty → Bool
  | 0, _, _, _ => false
  | d + 1, .mk k g _ ts, f, t =>
    if k = 1 then kindT f == g && kindT t == g
    else if k = 2 then
      match ts, kidsT' f, kidsT' t with
      | [a, b], [f1, f2], [t1, t2] => kindT f == 4 && (kindT t == 4 && (typC d a t1 f1 && typC d b f2 t2))
      | _, _, _ => false
    else if k = 3 then
      match ts, kidsT' f, kidsT' t with
      | [a, b], [f1, f2], [t1, t2] => kindT f == 5 && (kindT t == 5 && (typC d a f1 t1 && typC d b f2 t2))
      | _, _, _ => false
    else if k = 4 then
      match ts with
      | [a] => kindT t == 1 && (kindT f == tagC a && typC d a f (gk (kindT f)))
      | _ => false
    else if k = 5 then
      match ts with
      | [a] => kindT f == 1 && typC d a (gk (tagC a)) t
      | _ => false
    else kindT f == g

/-- The coercion of a cast. -/
def cst : Nat → Ty → Ty → Int → Co
  | 0, _, _, _ => .mk 0 0 0 []
  | n + 1, f, t, l =>
    if kindT f = kindT t ∧ kidsT' f = [] then .mk 1 (kindT f) 0 []
    else if kindT t = 1 then .mk 4 0 0 [cst n f (gk (kindT f)) l]
    else if kindT f = 1 then .mk 5 0 l [cst n (gk (kindT t)) t l]
    else match kidsT' f, kidsT' t with
      | [f1, f2], [t1, t2] => if kindT f = 4 then .mk 2 0 0 [cst n t1 f1 (-l), cst n f2 t2 l] else .mk 3 0 0 [cst n f1 t1 l, cst n f2 t2 l]
      | _, _ => .mk 0 0 0 []

/-- Composition; none: they do not fit. -/
def cmp : Nat → Co → Co → Option Co
  | 0, _, _ => none
  | n + 1, .mk k g l ts, .mk k' g' l' us =>
    if k = 1 ∧ g = 1 then (if k' = 5 ∨ k' = 1 ∧ g' = 1 then some (.mk k' g' l' us) else none)
    else if k = 5 then (match ts with
      | [a] => (cmp n a (.mk k' g' l' us)).map fun c => .mk 5 0 l [c]
      | _ => none)
    else if k = 6 then some (.mk k g l ts)
    else if k = 4 then
      (if k' = 5 then (match ts, us with
        | [a], [b] => if tagC a = tagC b then cmp n a b else some (.mk 6 (tagC a) l' [])
        | _, _ => none)
      else if k' = 1 ∧ g' = 1 then some (.mk k g l ts) else none)
    else if k' = 6 then (if tagC (.mk k g l ts) = g' then some (.mk k' g' l' us) else none)
    else if k' = 4 then (match us with
      | [b] => (cmp n (.mk k g l ts) b).map fun c => .mk 4 0 0 [c]
      | _ => none)
    else if k = k' ∧ g = g' then
      (if k = 1 then some (.mk k g l ts)
      else match ts, us with
        | [a1, a2], [b1, b2] => (match (if k = 2 then cmp n b1 a1 else cmp n a1 b1), cmp n a2 b2 with
          | some x, some y => some (.mk k 0 0 [x, y])
          | _, _ => none)
        | _, _ => none)
    else none

end Go.Proofs.Ytgekfnodmgkdaaa

/- The relations of chapter 8 as plain functions: what a cast between two types cannot blame (p = 1: its own label; -1: the negation of it; 0: neither). -/
import Derived.Test.YtelbpgdlcnnabaaBlB
namespace Go.Proofs.Ytelbpgdlcnnabaa
open Go.RowKit

/-- The operands of two types of the same kind. -/
def subS (f : Int → Ty → Ty → Bool) (p k : Int) : List Ty → List Ty → Bool
  | [x, y], [x', y'] => if k = 4 then f (-p) x' x && f p y y' else f p x x' && f p y y'
  | _, _ => true

/-- The relation, for types of at most a depth. -/
def sub : Nat → Int → Ty → Ty → Bool
  | 0, _, _, _ => true
  | d + 1, p, a, b =>
    if kindT a = 1 then (kindT b == 1) || (p == -1)
    else if kindT b = 1 then (p == 1) || subS (sub d) p (kindT a) (kidsT8 a) (kidsT8 (gk (kindT a)))
    else if kindT a = kindT b then subS (sub d) p (kindT a) (kidsT8 a) (kidsT8 b)
    else false

def subOf (p : Int) (a b : Ty) : Bool := vld a && vld b && sub 4 p a b

/-- Two types of one kind, none of them unknown: leaves, or two operands each. -/
inductive SameK (d : Nat) : Ty → Ty → Prop
  | leaf (k : Int) (h : k = 2 ∨ k = 3) : SameK d (.mk k []) (.mk k [])
  | two (k : Int) (x y x' y' : Ty) (h : k = 4 ∨ k = 5) (hx : shp d x = true) (hy : shp d y = true) (hx' : shp d x' = true) (hy' : shp d y' = true) : SameK d (.mk k [x, y]) (.mk k [x', y'])

theorem sameK_of {d : Nat} {a b : Ty} (ha : shp (d + 1) a = true) (hb : shp (d + 1) b = true) (h1 : kindT a ≠ 1) (h : kindT a = kindT b) : SameK d a b := by
  obtain ⟨k, ts, rfl⟩ := a.shape
  obtain ⟨k', us, rfl⟩ := b.shape
  obtain rfl : k = k' := h
  have h1' : k ≠ 1 := h1
  rcases shp_cases ha with ⟨rfl, hk⟩ | ⟨x, y, rfl, hk, hx, hy⟩
  · rcases shp_cases hb with ⟨rfl, _⟩ | ⟨x', y', rfl, hk', _⟩
    · exact .leaf k (by omega)
    · omega
  · rcases shp_cases hb with ⟨rfl, hk'⟩ | ⟨x', y', rfl, _, hx', hy'⟩
    · omega
    · exact .two k x y x' y' hk hx hy hx' hy'

theorem shp_pos {d : Nat} {t : Ty} (h : shp d t = true) : ∃ e, d = e + 1 := by
  cases d with
  | zero => simp [shp] at h
  | succ d => exact ⟨d, rfl⟩

theorem sub_any1 (d : Nat) (p : Int) (a b : Ty) (h : kindT a = 1) : sub (d + 1) p a b = ((kindT b == 1) || (p == -1)) := by simp [sub, h]
theorem sub_any2 (d : Nat) (p : Int) (a b : Ty) (h : kindT a ≠ 1) (hb : kindT b = 1) : sub (d + 1) p a b = ((p == 1) || subS (sub d) p (kindT a) (kidsT8 a) (kidsT8 (gk (kindT a)))) := by simp [sub, h, hb]
theorem sub_same (d : Nat) (p : Int) (a b : Ty) (h : kindT a ≠ 1) (hb : kindT b ≠ 1) (he : kindT a = kindT b) : sub (d + 1) p a b = subS (sub d) p (kindT a) (kidsT8 a) (kidsT8 b) := by
  have h2 : ¬ kindT b = 1 := hb
  have h1 : ¬ kindT a = 1 := h
  unfold sub
  rw [if_neg h1, if_neg h2, if_pos he]
theorem sub_diff (d : Nat) (p : Int) (a b : Ty) (h : kindT a ≠ 1) (hb : kindT b ≠ 1) (he : kindT a ≠ kindT b) : sub (d + 1) p a b = false := by
  have h2 : ¬ kindT b = 1 := hb
  have h1 : ¬ kindT a = 1 := h
  have h3 : ¬ kindT a = kindT b := he
  unfold sub
  rw [if_neg h1, if_neg h2, if_neg h3]

end Go.Proofs.Ytelbpgdlcnnabaa

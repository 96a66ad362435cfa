/- The text of a type: the specification's l1Text. -/
import Derived.Test.YtffmpjcjmffdeaaDoorPkA
import Derived.Deep.RegionHeld3
namespace Go.Proofs.YtffmpjcjmffdeaaDoor
open Go.RowKit

/-- The sign of a kind. -/
def sgn (k : Int) : UInt8 := if k = 1 then 63 else if k = 2 then 73 else if k = 3 then 66 else if k = 4 then 62 else 42

/-- The text of a well-formed tree. -/
def txt : Nat → Ty → List UInt8
  | 0, _ => []
  | _ + 1, .mk k [] => [sgn k]
  | d + 1, .mk k [a, b] => 40 :: (txt d a ++ (sgn k :: (txt d b ++ [41])))
  | _ + 1, _ => []

theorem txt_len : ∀ (d : Nat) (t : Ty), (txt d t).length + 3 ≤ 4 * 2 ^ d
  | 0, _ => by simp [txt]
  | d + 1, .mk k [] => by
    have : 0 < 2 ^ d := Nat.pow_pos (by omega)
    simp only [txt, List.length_cons, List.length_nil, Nat.pow_succ]
    omega
  | d + 1, .mk k [a] => by
    have : 0 < 2 ^ d := Nat.pow_pos (by omega)
    simp only [txt, List.length_nil, Nat.pow_succ]
    omega
  | d + 1, .mk k [a, b] => by
    have h1 := txt_len d a
    have h2 := txt_len d b
    simp only [txt, List.length_cons, List.length_append, List.length_nil, Nat.pow_succ]
    omega
  | d + 1, .mk k (a :: b :: c :: r) => by
    have : 0 < 2 ^ d := Nat.pow_pos (by omega)
    simp only [txt, List.length_nil, Nat.pow_succ]
    omega

theorem txt_le (d : Nat) (t : Ty) (h : d ≤ 4) : (txt d t).length ≤ 64 := by
  have h1 := txt_len d t
  have h2 : 2 ^ d ≤ 2 ^ 4 := Nat.pow_le_pow_right (by omega) h
  omega

/-- A well-formed tree is a leaf or has two well-formed operands. -/
theorem shp_cases {d : Nat} {k : Int} {ts : List Ty} (h : shp (d + 1) (.mk k ts) = true) :
    (ts = [] ∧ (k = 1 ∨ k = 2 ∨ k = 3)) ∨ ∃ a b, ts = [a, b] ∧ (k = 4 ∨ k = 5) ∧ shp d a = true ∧ shp d b = true := by
  simp only [shp, Bool.and_eq_true, beq_iff_eq] at h
  obtain ⟨h1, h2⟩ := h
  unfold kidsOf at h1
  by_cases hk : k = 1 ∨ k = 2 ∨ k = 3
  · rw [if_pos hk] at h1
    exact .inl ⟨List.length_eq_zero_iff.1 (by omega), hk⟩
  · rw [if_neg hk] at h1
    by_cases hk2 : k = 4 ∨ k = 5
    · rw [if_pos hk2] at h1
      match ts, h1 with
      | [a, b], _ =>
        simp only [List.all_cons, List.all_nil, Bool.and_true, Bool.and_eq_true] at h2
        exact .inr ⟨a, b, rfl, hk2, h2.1, h2.2⟩
    · rw [if_neg hk2] at h1
      omega

/-- The parts of a pair's reading. -/
theorem SlAt.two {w : World} {x y : Ty} {s : Value} {fp : List Nat} (h : SlAt w [x, y] s fp) :
    ∃ b o cap k1 n1 a1 c1 k2 n2 a2 c2 f1 f2, s = .slice (some ⟨b, o, none⟩) 2 cap ∧ b < w.heap.size ∧ w.cell? ⟨b, o, none⟩ = some (.int .i64 k1) ∧ w.cell? ⟨b, o + 1, none⟩ = some (.slice a1 n1 c1) ∧ w.cell? ⟨b, o + 2, none⟩ = some (.int .i64 k2) ∧ w.cell? ⟨b, o + 2 + 1, none⟩ = some (.slice a2 n2 c2) ∧
      x.At w (.agg #[.int .i64 k1, .slice a1 n1 c1]) f1 ∧ y.At w (.agg #[.int .i64 k2, .slice a2 n2 c2]) f2 ∧ fp = b :: (f1 ++ f2) ∧ 2 ≤ cap := by
  rcases h with ⟨h, _⟩ | ⟨b, o, cap, f, rfl, _, hc, _, hl, rfl⟩
  · cases h
  · obtain ⟨v0, v1, f1, f2, c0, c1, hx, hl, rfl⟩ := hl
    obtain ⟨u0, u1, g1, g2, d0, d1, hy, hl, rfl⟩ := hl
    cases hl
    obtain ⟨k1, n1, a1, cap1, hv⟩ := hx.agg
    obtain ⟨k2, n2, a2, cap2, hu⟩ := hy.agg
    simp only [Value.agg.injEq, Array.mk.injEq, List.cons.injEq, and_true] at hv hu
    obtain ⟨rfl, rfl⟩ := hv
    obtain ⟨rfl, rfl⟩ := hu
    exact ⟨b, o, cap, k1, n1, a1, cap1, k2, n2, a2, cap2, f1, g1, rfl, World.block_lt_of_cell? _ _ c0, c0, c1, d0, d1, hx, hy, by simp, hc⟩

theorem str_pair (A B : List UInt8) (c : UInt8) : ((((⟨#[40]⟩ : ByteArray) ++ ⟨A.toArray⟩) ++ ⟨#[c]⟩) ++ ⟨B.toArray⟩) ++ ⟨#[41]⟩ = ⟨(40 :: (A ++ (c :: (B ++ [41])))).toArray⟩ := by
  apply ByteArray.ext
  simp [ByteArray.data_append]

theorem ret_s {a b : ByteArray} (h : a = b) : Ending.returned (.string a) = .returned (.string b) := by rw [h]

/-- The text of a type; nothing of one that is not valid. -/
def fmtT (t : Ty) : List UInt8 := if vld t then txt 4 t else []

theorem fmtT_le (t : Ty) : (fmtT t).length ≤ 64 := by
  unfold fmtT
  split
  · exact txt_le 4 t (Nat.le_refl _)
  · simp

end Go.Proofs.YtffmpjcjmffdeaaDoor

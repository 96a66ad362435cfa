/- The text of a coercion, plainly. -/
import Derived.Test.YtgekfnodmgkdaaaCp
import Derived.Test.YtgekfnodmgkdaaaCq
import Derived.Test.YtgekfnodmgkdaaaTx0
import Derived.Test.YtgekfnodmgkdaaaIto
import Derived.Lib.ItoaLen
namespace Go.Proofs.Ytgekfnodmgkdaaa
open Go.RowKit

def cx : Nat → Co → List UInt8
  | 0, _ => []
  | _ + 1, .mk k g l [] => if k = 1 then [sgn g] else 88 :: (Lib.itoa l ++ [sgn g])
  | d + 1, .mk k _ l [a] => if k = 4 then 33 :: cx d a else 35 :: (Lib.itoa l ++ (46 :: cx d a))
  | d + 1, .mk k _ _ [a, b] => 40 :: (cx d a ++ (sgn (if k = 2 then 4 else 5) :: (cx d b ++ [41])))
  | _ + 1, _ => []

theorem isLb_rng' {l : Int} (h : isLb l = true) : -99 ≤ l ∧ l ≤ 99 := by
  unfold isLb at h
  simp at h
  omega

theorem itoa_len' {l : Int} (h : -99 ≤ l ∧ l ≤ 99) : (Lib.itoa l).length ≤ 21 := Lib.itoa_length_le l (by omega) (by omega)

theorem cx_len : ∀ (d : Nat) (t : Co), shpK d t = true → (cx d t).length + 30 ≤ 60 * 2 ^ d
  | 0, _, h => by simp [shpK] at h
  | d + 1, .mk k g l ts, h => by
    have hp : 0 < 2 ^ d := Nat.pow_pos (by omega)
    obtain ⟨hn, hts⟩ := shpK_node h
    rcases nodeC_cases hn with ⟨rfl, rfl, rfl, _, _⟩ | ⟨rfl, rfl, rfl, a, b, rfl⟩ | ⟨rfl, rfl, rfl, a, b, rfl⟩ | ⟨rfl, rfl, rfl, a, rfl, _⟩ | ⟨rfl, rfl, hl, a, rfl, _⟩ | ⟨rfl, rfl, hl, _, _⟩
    · simp only [cx, if_true, List.length_cons, List.length_nil, Nat.pow_succ]
      omega
    · have h1 := cx_len d a (hts a (by simp))
      have h2 := cx_len d b (hts b (by simp))
      simp only [cx, List.length_cons, List.length_append, List.length_nil, Nat.pow_succ]
      omega
    · have h1 := cx_len d a (hts a (by simp))
      have h2 := cx_len d b (hts b (by simp))
      simp only [cx, List.length_cons, List.length_append, List.length_nil, Nat.pow_succ]
      omega
    · have h1 := cx_len d a (hts a (by simp))
      simp only [cx, if_true, List.length_cons, Nat.pow_succ]
      omega
    · have h1 := cx_len d a (hts a (by simp))
      have h2 := itoa_len' (isLb_rng' hl)
      have e : ¬ ((5 : Int) = 4) := by omega
      simp only [cx, if_neg e, List.length_cons, List.length_append, Nat.pow_succ]
      omega
    · have h2 := itoa_len' (isLb_rng' hl)
      have e : ¬ ((6 : Int) = 1) := by omega
      simp only [cx, if_neg e, List.length_cons, List.length_append, List.length_nil, Nat.pow_succ]
      omega

theorem cx_le (d : Nat) (t : Co) (hd : d ≤ 9) (h : shpK d t = true) : (cx d t).length ≤ 30720 := by
  have h1 := cx_len d t h
  have h2 : 2 ^ d ≤ 2 ^ 9 := Nat.pow_le_pow_right (by omega) hd
  omega

/-- The document's FormatCoercion. -/
def fcV (t : Co) : List UInt8 := if vldK t then cx 9 t else []
end Go.Proofs.Ytgekfnodmgkdaaa

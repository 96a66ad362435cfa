/- How many casts a term has. -/
import Derived.Test.YtffmpjcjmffdeaaDoorEcJ
namespace Go.Proofs.YtffmpjcjmffdeaaDoor
open Go.RowKit

def ccStep (n : Nat) (_ : Tm) : Nat := n + 1
theorem ccStep_len : ∀ (a : Nat) (t : Tm), id (ccStep a t) ≤ id a + 2 := fun a t => by simp [ccStep]
/-- The number of a term's casts. -/
def ccN (t : Tm) : Nat := ecN ccStep 0 t

mutual
theorem ecN_cc : ∀ (t : Tm) (n : Nat), ecN ccStep n t = n + ecN ccStep 0 t
  | .mk k nm num ty fr lb ts, n => by
    simp only [ecN, ccStep]
    rw [ecL_cc ts (if k = 14 then n + 1 else n), ecL_cc ts (if k = 14 then 0 + 1 else 0)]
    split <;> omega
theorem ecL_cc : ∀ (ts : List Tm) (n : Nat), ecL ccStep n ts = n + ecL ccStep 0 ts
  | [], n => by simp [ecL]
  | t :: ts, n => by
    simp only [ecL]
    rw [ecL_cc ts (ecN ccStep n t), ecL_cc ts (ecN ccStep 0 t), ecN_cc t n]
    omega
end

theorem cc_take (ts : List Tm) (a j : Nat) (h : j < ts.length) : ecL ccStep a (ts.take (j + 1)) = ecL ccStep a (ts.take j) + ccN ts[j] := by
  rw [ecL_take ccStep ts a j h, ecN_cc]
  rfl
theorem cc_len (t : Tm) : ccN t ≤ 2 * (t.sz + 1) := by
  have := ecN_len ccStep id ccStep_len t 0
  simpa [ccN] using this
theorem cc_takelen (ts : List Tm) (a j : Nat) (h : j < ts.length) : ecL ccStep a (ts.take j) + 2 * (ts[j].sz + 1) ≤ a + 2 * (ts.length + szML ts) := ecL_take_len ccStep id ccStep_len ts a j h
end Go.Proofs.YtffmpjcjmffdeaaDoor

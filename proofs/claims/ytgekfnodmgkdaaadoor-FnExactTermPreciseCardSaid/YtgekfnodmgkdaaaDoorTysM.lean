/- The specification's list of a term's types: l2Types. -/
import Derived.Test.YtgekfnodmgkdaaaDoorPkA
import Derived.Test.YtgekfnodmgkdaaaDoorCnM
import Derived.Test.YtgekfnodmgkdaaaDoorPkB
namespace Go.Proofs.YtgekfnodmgkdaaaDoor
open Go.RowKit

mutual
/-- The types that a term mentions. -/
def tysOf : Tm → List Ty
  | .mk k _ _ ty _ _ ts => (if k = 5 ∨ k = 13 then [ty] else []) ++ tysL ts
def tysL : List Tm → List Ty
  | [] => []
  | t :: ts => tysOf t ++ tysL ts
end

theorem tysL_take {ts : List Tm} {k : Nat} (h : k < ts.length) : tysL (ts.take (k + 1)) = tysL (ts.take k) ++ tysOf ts[k] := by
  rw [take_succM h]
  generalize ts.take k = l
  induction l with
  | nil => simp [tysL]
  | cons a l ih => simp only [List.cons_append, tysL, ih, List.append_assoc]

mutual
theorem tysOf_len : ∀ t : Tm, (tysOf t).length ≤ t.sz + 1
  | .mk k nm num ty fr lb ts => by
    have := tysL_len ts
    simp only [tysOf, List.length_append, Tm.sz]
    split <;> simp only [List.length_cons, List.length_nil] <;> omega
theorem tysL_len : ∀ ts : List Tm, (tysL ts).length ≤ ts.length + szML ts
  | [] => by simp [tysL]
  | t :: ts => by
    have h1 := tysOf_len t
    have h2 := tysL_len ts
    simp only [tysL, List.length_append, List.length_cons, szML]
    omega
end

theorem tysL_take_len (ts : List Tm) (k : Nat) : (tysL (ts.take k)).length ≤ (tysL ts).length := by
  induction ts generalizing k with
  | nil => simp [tysL]
  | cons t ts ih =>
    cases k with
    | zero => simp [tysL]
    | succ k => simp only [List.take_succ_cons, tysL, List.length_append]; have := ih k; omega

end Go.Proofs.YtgekfnodmgkdaaaDoor

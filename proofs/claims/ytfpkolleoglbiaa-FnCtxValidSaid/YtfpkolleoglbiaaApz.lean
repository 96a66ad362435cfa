/- append of a row without elements, its address known or not: as a law for the walk. -/
import Derived.Deep.Upon
import Derived.Tactics
namespace Go.Proofs.Ytfpkolleoglbiaa
open Go

theorem wpList_append_zero {P : Program} {w : World} {ops : Array Oper} {rest : List Oper} {o : Oper} {a : Act} {Q : Exit → Act → World → Prop} (hgd : o.guard = none) (s x : Operand) (t : TypeId)
    (ho : o.op = .call { callee := .builtin .append, args := #[s, x], argTypes := #[t, t] })
    (e : TypeId) (i : TypeInfo) (ht : P.underlying t = some (.slice e)) (hi : P.info? e = some i)
    (base : Option Addr) (n sc : Nat) (hs : a.eval s = .slice base n sc) (hle : n ≤ sc) (ao : Option Addr) (c : Nat) (hx : a.eval x = .slice ao 0 c)
    (h : wpList P ops Q rest (a.put o.dst (.slice base n sc)) w) : wpList P ops Q (o :: rest) a w := by
  refine wpList_plain hgd fun K hK => ?_
  have hc : ∀ W : World, (Builtin.firstCells i.size 0 (.slice ao 0 c)).run P W = .ok ([] : List Value).toArray W := by
    intro W
    cases ao with
    | none => exact run_firstCells_none W i.size 0 0 c
    | some a' => exact run_firstCells_some W i.size 0 a' 0 c [] (by simp) (by intro _ _ h'; simp at h')
  have hsrc : Src P i.size t (.slice ao 0 c) 0 [] w := ⟨.inl ⟨e, ht⟩, fun w' => by simp [Builtin.lenOf], hc w, hc w.drew, by simp, by simp⟩
  have hrun := run_append_nothing (P := P) w t t o.type e i ht hi base n sc hle (.slice ao 0 c) hsrc
  unfold Oper.wp
  simp [execOp, ho, resolve, invoke, builtin, hs, hx, hrun, Result.andThen]
  exact hK _ _ h

end Go.Proofs.Ytfpkolleoglbiaa

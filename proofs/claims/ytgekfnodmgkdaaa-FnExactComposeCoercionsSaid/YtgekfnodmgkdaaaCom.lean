/- What a composition hands back, and closings. -/
import Derived.Test.YtgekfnodmgkdaaaCk
import Derived.Test.YtgekfnodmgkdaaaCCp
import Derived.Test.YtgekfnodmgkdaaaRgL
namespace Go.Proofs.Ytgekfnodmgkdaaa
open Go.RowKit

/-- The specification's composition: where there is one, it lies in new memory; else any value of the struct. -/
def MadeO (w : World) (o : Option Co) (e : Ending) (w' : World) : Prop :=
  ∃ (k g l : Int) (a : Option Addr) (n cap : Nat), e = .returned (.tuple #[.agg #[.int .i64 k, .int .i64 g, .int .i64 l, .slice a n cap], .bool o.isSome]) ∧ Below w.heap.size w w' ∧ ∀ c, o = some c → ∃ fp, c.At w' (.agg #[.int .i64 k, .int .i64 g, .int .i64 l, .slice a n cap]) fp ∧ Fresh w.heap.size w' fp

theorem closeO {w wF : World} {M lo : Nat} {o : Option Co} {b : Bool} {k g l : Int} {a : Option Addr} {n cap : Nat} (hb : o.isSome = b) (h : ∀ c, o = some c → ∃ fp, c.At wF (.agg #[.int .i64 k, .int .i64 g, .int .i64 l, .slice a n cap]) fp ∧ Fresh lo wF fp) (hM : w.heap.size ≤ M) (hlo : M < lo) (hbw : Below w.heap.size w wF) :
    MadeO w o (.returned (.tuple #[.agg #[.int .i64 k, .int .i64 g, .int .i64 l, .slice a n cap], .bool b])) (put4 wF M 0 (.int .i64 k) (.int .i64 g) (.int .i64 l) (.slice a n cap)) := by
  subst hb
  refine ⟨k, g, l, a, n, cap, rfl, put4_below hbw hM _ _ _ _, fun c hc => ?_⟩
  obtain ⟨fp, hat, hf⟩ := h c hc
  exact ⟨fp, hat.above (put4_above hlo _ _ _ _) hf.ge, (hf.above (put4_above hlo _ _ _ _) (Nat.le_refl _)).mono (by omega)⟩

def one1 (ts : List Co) (f : Co → Option Co) : Option Co :=
  match ts with
  | [a] => f a
  | _ => none

def two2 (ts us : List Co) (f : Co → Co → Co → Co → Option Co) : Option Co :=
  match ts, us with
  | [a1, a2], [b1, b2] => f a1 a2 b1 b2
  | _, _ => none

def bothC (k : Int) (x y : Option Co) : Option Co :=
  match x, y with
  | some x, some y => some (.mk k 0 0 [x, y])
  | _, _ => none

@[simp] theorem one1_one (a : Co) (f : Co → Option Co) : one1 [a] f = f a := rfl
@[simp] theorem two2_two (a1 a2 b1 b2 : Co) (f : Co → Co → Co → Co → Option Co) : two2 [a1, a2] [b1, b2] f = f a1 a2 b1 b2 := rfl

/-- One step of composition, off composition of less deep ones. -/
def cmpN (r : Co → Co → Option Co) : Co → Co → Option Co
  | .mk k g l ts, .mk k' g' l' us =>
    if k = 1 ∧ g = 1 then (if k' = 5 ∨ k' = 1 ∧ g' = 1 then some (.mk k' g' l' us) else none)
    else if k = 5 then one1 ts fun a => (r a (.mk k' g' l' us)).map fun c => .mk 5 0 l [c]
    else if k = 6 then some (.mk k g l ts)
    else if k = 4 then
      (if k' = 5 then one1 ts fun a => one1 us fun b => if tagC a = tagC b then r a b else some (.mk 6 (tagC a) l' [])
      else if k' = 1 ∧ g' = 1 then some (.mk k g l ts) else none)
    else if k' = 6 then (if tagC (.mk k g l ts) = g' then some (.mk k' g' l' us) else none)
    else if k' = 4 then one1 us fun b => (r (.mk k g l ts) b).map fun c => .mk 4 0 0 [c]
    else if k = k' ∧ g = g' then
      (if k = 1 then some (.mk k g l ts)
      else two2 ts us fun a1 a2 b1 b2 => bothC k (if k = 2 then r b1 a1 else r a1 b1) (r a2 b2))
    else none

/-- The document's composition, by depth. -/
def cmpo : Nat → Co → Co → Option Co
  | 0, _, _ => none
  | n + 1, a, b => cmpN (cmpo n) a b

/-- Composition by depth: the sum of the depths bounds the steps. -/
def CmC (n : Nat) : Prop := ∀ (a b : Co) (d d' : Nat) (va vb : Value) (fa fb : List Nat) (w : World), d + d' ≤ n → d ≤ 9 → d' ≤ 9 → shpK d a = true → shpK d' b = true → a.At w va fa → b.At w vb fb →
  Calls Try.prog 34 #[va, vb] w (MadeO w (cmpo n a b))
end Go.Proofs.Ytgekfnodmgkdaaa

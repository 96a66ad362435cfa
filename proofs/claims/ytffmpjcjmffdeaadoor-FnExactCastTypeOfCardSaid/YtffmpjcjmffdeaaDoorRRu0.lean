/- What ruleFor says, and short lists of types in one block. -/
import Derived.StillTailTactics
import Derived.Test.YtffmpjcjmffdeaaDoorRG13
import Derived.Test.YtffmpjcjmffdeaaDoorRG11
import Derived.Test.YtffmpjcjmffdeaaDoorRMtcI
namespace Go.Proofs.YtffmpjcjmffdeaaDoor
open Go.RowKit

/-- What a rule says: the wanted types and the result, which may share memory with what was given. -/
def RuO (A : List Nat) (w : World) (o : Option (List Ty × Ty)) (e : Ending) (w' : World) : Prop :=
  ∃ ws r sa sn sc k n a c f1 f2, e = .returned (.tuple #[.agg #[.slice sa sn sc, .int .i64 k, .slice a n c], .bool o.isSome]) ∧ SlAt w' ws (.slice sa sn sc) f1 ∧ r.At w' (.agg #[.int .i64 k, .slice a n c]) f2 ∧
    (∀ p, o = some p → p = (ws, r)) ∧ SrcB A w w' (f1 ++ f2) ∧ Below w.heap.size w w'

theorem leaf_at (w : World) (k : Int) (a : Option Addr) (c : Nat) : (Ty.mk k []).At w (.agg #[.int .i64 k, .slice a 0 c]) [] := Ty.at_mk.2 ⟨_, rfl, .inl ⟨rfl, rfl, _, _, rfl⟩⟩
theorem sl_nil (w : World) (a : Option Addr) (c : Nat) : SlAt w [] (.slice a 0 c) [] := .inl ⟨rfl, rfl, _, _, rfl⟩

theorem sl_one {w : World} {b : Nat} {T : TypeId} {t : Ty} {x0 x1 : Value} {f : List Nat} (h : w.heap[b]? = some (.cells #[x0, x1] T (0, 0))) (ht : t.At w (.agg #[x0, x1]) f) : SlAt w [t] (.slice (some ⟨b, 0, none⟩) 1 1) (b :: (f ++ [])) :=
  .inr ⟨b, 0, 1, _, rfl, by simp, by simp, by simp [maxLen], ⟨_, _, f, [], by rw [cell_of_block h]; rfl, by rw [cell_of_block h]; rfl, ht, rfl, rfl⟩, rfl⟩
theorem sl_two {w : World} {b : Nat} {T : TypeId} {t u : Ty} {x0 x1 y0 y1 : Value} {f g : List Nat} (h : w.heap[b]? = some (.cells #[x0, x1, y0, y1] T (0, 0))) (ht : t.At w (.agg #[x0, x1]) f) (hu : u.At w (.agg #[y0, y1]) g) :
    SlAt w [t, u] (.slice (some ⟨b, 0, none⟩) 2 2) (b :: (f ++ (g ++ []))) :=
  .inr ⟨b, 0, 2, _, rfl, by simp, by simp, by simp [maxLen], ⟨_, _, f, g ++ [], by rw [cell_of_block h]; rfl, by rw [cell_of_block h]; rfl, ht, ⟨_, _, g, [], by rw [cell_of_block h]; rfl, by rw [cell_of_block h]; rfl, hu, rfl, rfl⟩, rfl⟩, rfl⟩
theorem sl_three {w : World} {b : Nat} {T : TypeId} {t u v : Ty} {x0 x1 y0 y1 z0 z1 : Value} {f g i : List Nat} (h : w.heap[b]? = some (.cells #[x0, x1, y0, y1, z0, z1] T (0, 0))) (ht : t.At w (.agg #[x0, x1]) f) (hu : u.At w (.agg #[y0, y1]) g) (hv : v.At w (.agg #[z0, z1]) i) :
    SlAt w [t, u, v] (.slice (some ⟨b, 0, none⟩) 3 3) (b :: (f ++ (g ++ (i ++ [])))) :=
  .inr ⟨b, 0, 3, _, rfl, by simp, by simp, by simp [maxLen], ⟨_, _, f, g ++ (i ++ []), by rw [cell_of_block h]; rfl, by rw [cell_of_block h]; rfl, ht, ⟨_, _, g, i ++ [], by rw [cell_of_block h]; rfl, by rw [cell_of_block h]; rfl, hu, ⟨_, _, i, [], by rw [cell_of_block h]; rfl, by rw [cell_of_block h]; rfl, hv, rfl, rfl⟩, rfl⟩, rfl⟩, rfl⟩

theorem src_cons {A f : List Nat} {w w' : World} {b : Nat} (hb : w.heap.size ≤ b) (hz : ∀ o, w'.frozen? ⟨b, o, none⟩ = false) (h : SrcB A w w' f) : SrcB A w w' (b :: f) := fun x hx => by
  rcases List.mem_cons.1 hx with rfl | hx
  · exact .inr ⟨hb, hz⟩
  · exact h x hx

def RuC (K : Int) : Prop := ∀ (xs : List Bd) (p : Option Addr) (fps : List Nat) (nm : ByteArray) (num : Int) (ty fr : Ty) (lb : Int) (ts : List Tm) (v : Value) (fe : List Nat) (us : List Ty) (s : Value) (fu : List Nat) (w : World),
  ScAt w xs (.pointer p) fps → Tm.At w (.mk K nm num ty fr lb ts) v fe → SlAt w us s fu → kidsM K = (us.length : Int) → (∀ u ∈ us, vld u = true) →
  Calls Tryd.prog 117 #[.pointer p, v, s] w (RuO (fe ++ (fps ++ fu)) w (ruleM xs K nm ty fr us))
end Go.Proofs.YtffmpjcjmffdeaaDoor

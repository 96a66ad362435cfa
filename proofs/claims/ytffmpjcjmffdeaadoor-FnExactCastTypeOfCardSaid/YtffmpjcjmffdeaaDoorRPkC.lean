/- The laws' own helpers heldTermS and heldTerm: the marks asked for again. Terms that stay while others are marked; how many marks a term takes. -/
import Derived.Deep.RegionHeld3
import Derived.Test.YtffmpjcjmffdeaaDoorRMMk
import Derived.Test.YtffmpjcjmffdeaaDoorRPkA
namespace Go.Proofs.YtffmpjcjmffdeaaDoor
open Go.RowKit

end Go.Proofs.YtffmpjcjmffdeaaDoor

namespace Go.Proofs.YtffmpjcjmffdeaaDoor
open Go.RowKit

theorem Tm.At.only {w w' : World} {t : Tm} {v : Value} {fp g : List Nat} (h : t.At w v fp) (hg : Only g w w') (hd : ∀ x ∈ fp, x ∉ g) : t.At w' v fp :=
  h.congr fun x hx o' => World.cell?_of_block (w := w) (a := ⟨x, o', none⟩) (hg.block x (h.lt x hx) (hd x hx))

mutual
theorem num_le : ∀ t : Tm, t.num ≤ 6 * t.sz
  | .mk k nm num ty fr lb ts => by
    have := numL_le ts
    simp only [Tm.num, Tm.sz]
    omega
theorem numL_le : ∀ ts : List Tm, numL ts ≤ 6 * (ts.length + szML ts)
  | [] => by simp [numL]
  | t :: ts => by
    have h1 := num_le t
    have h2 := numL_le ts
    simp only [numL, List.length_cons, szML]
    omega
end
end Go.Proofs.YtffmpjcjmffdeaaDoor

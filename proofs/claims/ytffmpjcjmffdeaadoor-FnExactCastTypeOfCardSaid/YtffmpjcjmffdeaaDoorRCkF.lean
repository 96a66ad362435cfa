/- The fitter that leaves operands whose types are consistent with the wanted ones. -/
import Derived.Test.YtffmpjcjmffdeaaDoorRChk
import Derived.Test.YtffmpjcjmffdeaaDoorRG13
namespace Go.Proofs.YtffmpjcjmffdeaaDoor
open Go.RowKit

def noI : Int → World → Prop := fun _ _ => True

theorem keep_noI : KeepI none noI := fun _ _ _ _ _ => trivial
theorem ul_none (S : Nat) : UL none S := fun u h => by cases h

end Go.Proofs.YtffmpjcjmffdeaaDoor

/- The program's rewriteTerm with the change that leaves out casts and types. -/
import Derived.Test.YtdehhobpfaaboaaDoorRwC
import Derived.Test.YtdehhobpfaaboaaDoorBrN
namespace Go.Proofs.YtdehhobpfaaboaaDoor
open Go.RowKit

def RwB (t : Tm) : Prop := ∀ v fp w, t.At w v fp → bOk t → Calls Tryd.prog 59 #[v, .func (.func 89) #[] #[]] w (MadeM w (bareT t))

theorem callOk_bn : CallOkT 89 := fun _ _ => by kernel_rfl

theorem bareL_get : ∀ (ts : List Tm) (j : Nat) (h : j < ts.length) (h' : j < (bareL ts).length), (bareL ts)[j] = bareT ts[j]
  | t :: ts, 0, _, _ => by simp [bareL]
  | t :: ts, j + 1, h, h' => by
    simp only [bareL, List.getElem_cons_succ]
    exact bareL_get ts j (by simpa using h) _

theorem ro_made {w : World} {u : Tm} {e : Ending} {w' : World} (h : RoOut none (fun _ _ => True) w 0 u e w') : MadeM w u e w' := by
  obtain ⟨v, f, he, hu, hf, hb, -⟩ := h
  exact ⟨v, f, he, hu, hf, hb.below⟩

theorem made_ro {w : World} {u : Tm} {n : Nat} {e : Ending} {w' : World} (h : MadeM w u e w') : RoOut none (fun _ _ => True) w n u e w' := by
  obtain ⟨v, f, he, hu, hf, hb⟩ := h
  exact ⟨v, f, he, hu, hf, Bo.of_below hb, trivial⟩

theorem rewriteBare : ∀ (n : Nat) (t : Tm), t.sz ≤ n → t.sz ≤ 1048576 → RwB t := by
  intro n
  induction n using Nat.strongRecOn with
  | _ n ih =>
  intro t hn hsz v fp w hat hok
  refine (rewriteVia 89 #[] none 0 (fun _ _ => True) callOk_bn (fun u e => by cases e) (fun _ _ _ _ _ => trivial) t v fp w 0 (bareT t) hat (fun _ _ e => by cases e) (Nat.zero_le _) fun W hW => ?_).mono fun e w' => ro_made
  refine (bareNode_any t v fp W hok (hat.below hW)).mono ?_
  rintro e w1 ⟨k, nm, num, ts, a3, c3, f3, j1, m1, p1, d1, j2, m2, p2, d2, g1, g2, hbt, hokL, hszL, hnm, hs, hf3, rfl, hv1, hv2, hg, hb1⟩
  refine .inr ⟨fun _ _ => True, k, nm, num, bty k, .mk 0 [], 0, ts, bareL ts, a3, c3, f3, j1, m1, p1, d1, j2, m2, p2, d2, g1, g2, rfl, hbt.bare, bareL_len ts, by omega, hnm, hs, hf3, hv1, hv2, hg, Bo.of_below hb1, trivial, fun _ _ => trivial, fun _ _ _ _ _ => trivial, ?_⟩
  intro j h h' v fp w hat _ _ _
  have hk : ts[j].sz < n ∧ ts[j].sz ≤ 1048576 := by have := sz_mem (List.getElem_mem h); omega
  rw [bareL_get ts j h h']
  exact (ih _ hk.1 ts[j] (Nat.le_refl _) hk.2 v fp w hat (bOkL_get hokL j h)).mono fun e w' => made_ro

theorem rewriteBare_any (t : Tm) (v : Value) (fp : List Nat) (w : World) (hsz : t.sz ≤ 1048576) (hok : bOk t) (hat : t.At w v fp) : Calls Tryd.prog 59 #[v, .func (.func 89) #[] #[]] w (MadeM w (bareT t)) :=
  rewriteBare t.sz t (Nat.le_refl _) hsz v fp w hat hok
end Go.Proofs.YtdehhobpfaaboaaDoor

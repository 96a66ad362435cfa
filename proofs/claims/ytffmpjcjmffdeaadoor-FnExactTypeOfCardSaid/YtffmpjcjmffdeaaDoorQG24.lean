/- What a typing of the specification says. The type of a term in a context, if both are valid. -/
import Derived.Test.YtffmpjcjmffdeaaDoorQTyQ
import Derived.Test.YtffmpjcjmffdeaaDoorQG15
import Derived.Test.YtffmpjcjmffdeaaDoorQG11
import Derived.Test.YtffmpjcjmffdeaaDoorQG1
import Derived.Test.YtffmpjcjmffdeaaDoorQPkB
import Derived.Test.YtffmpjcjmffdeaaDoorQCtxP
namespace Go.Proofs.YtffmpjcjmffdeaaDoor
open Go.RowKit

/-- A type in memory of its own, if there is one; else some that does not matter. -/
def MadeTO (w : World) (o : Option Ty) (e : Ending) (w' : World) : Prop := ∃ T, (∀ u, o = some u → T = u) ∧ MadeTB w T o.isSome e w'

theorem l3Int_any (w : World) : Calls Tryd.prog 111 #[] w fun e w' => e = .returned (.agg #[.int .i64 2, .slice none 0 0]) ∧ Below w.heap.size w w' := by
  go_enter Tryd.func111, Tryd.ntmps111
  go_wp2_with fail
  exact bodyPost_ret (v := .agg #[.int .i64 2, .slice none 0 0]) (by simp [results, Tryd.results111, go_sem]) rfl ⟨rfl, (Below.refl _ _).alloc (Nat.le_refl _) _⟩

theorem l3Bool_any (w : World) : Calls Tryd.prog 112 #[] w fun e w' => e = .returned (.agg #[.int .i64 3, .slice none 0 0]) ∧ Below w.heap.size w w' := by
  go_enter Tryd.func112, Tryd.ntmps112
  go_wp2_with fail
  exact bodyPost_ret (v := .agg #[.int .i64 3, .slice none 0 0]) (by simp [results, Tryd.results112, go_sem]) rfl ⟨rfl, (Below.refl _ _).alloc (Nat.le_refl _) _⟩

theorem leaf_ty (w : World) (k : Int) : (Ty.mk k []).At w (.agg #[.int .i64 k, .slice none 0 0]) [] := Ty.at_mk.2 ⟨_, rfl, .inl ⟨rfl, rfl, _, _, rfl⟩⟩

/-- The type stored into the result's block. -/
theorem MadeTO.stored {w W : World} {P B : Nat} {T : Ty} {o : Option Ty} {b : Bool} {k : Int} {n c : Nat} {a : Option Addr} {f : List Nat} (ho : ∀ u, o = some u → T = u) (hob : o.isSome = b) (h : T.At W (.agg #[.int .i64 k, .slice a n c]) f) (hf : Fresh B W f) (hP : P < B) (hw : w.heap.size ≤ P) (hb : Below w.heap.size w W) :
    MadeTO w o (.returned (.tuple #[.agg #[.int .i64 k, .slice a n c], .bool b])) ((W.setCell ⟨P, 0, none⟩ (.int .i64 k)).setCell ⟨P, 1, none⟩ (.slice a n c)) := by
  subst hob
  have hne : ∀ b ∈ f, b ≠ P := fun b hm => by have := (hf.2 b hm).1; omega
  exact ⟨T, ho, _, f, rfl, (h.setCell hne _).setCell hne _, ((hf.setCell hne _).setCell hne _).mono (by omega), (hb.setCell (p := ⟨P, 0, none⟩) hw _).setCell (p := ⟨P, 1, none⟩) hw _⟩

theorem MadeTO.drew {w W : World} {o : Option Ty} {e : Ending} (h : MadeTO w o e W) : MadeTO w o e W.drew := by
  obtain ⟨T, h1, v, f, he, h2, h3, h4⟩ := h
  exact ⟨T, h1, v, f, he, h2.below (below_drew W), h3.below (below_drew W), below_trans h4 (below_drew W)⟩

theorem two_keepS {W : World} {P b o : Nat} {v : Value} (h : W.cell? ⟨b, o, none⟩ = some v) (hb : b ≠ P) (x y : Value) : ((W.setCell ⟨P, 0, none⟩ x).setCell ⟨P, 1, none⟩ y).cell? ⟨b, o, none⟩ = some v := two_set_keep h hb x y

theorem setCell_alloc9 {w : World} {P i : Nat} (o : Obj) (v : Value) (h : P < w.heap.size) : (w.alloc o).setCell ⟨P, i, none⟩ v = (w.setCell ⟨P, i, none⟩ v).alloc o := by
  simp only [World.setCell, World.alloc, World.mk.injEq, and_true]
  apply Array.ext_getElem?
  intro k
  simp only [Array.getElem?_modify, Array.getElem?_push, Array.size_modify]
  by_cases hk : P = k
  · subst hk
    have : ¬ P = w.heap.size := by omega
    simp [this]
  · by_cases hs : k = w.heap.size
    · have : ¬ P = w.heap.size := by omega
      simp [hs, this]
    · simp [hk, hs]

def ReC (K : Int) : Prop := ∀ (nm : ByteArray) (num : Int) (ty fr : Ty) (lb : Int) (ts : List Tm) (v : Value) (fe : List Nat) (us : List Ty) (s : Value) (fu : List Nat) (w : World),
  Tm.At w (.mk K nm num ty fr lb ts) v fe → SlAt w us s fu → kidsM K = (us.length : Int) → (∀ u ∈ us, vld u = true) → (K = 13 → vld ty = true) →
  Calls Tryd.prog 115 #[v, s] w (MadeTO w (resM K ty us))
end Go.Proofs.YtffmpjcjmffdeaaDoor

namespace Go.Proofs.YtffmpjcjmffdeaaDoor
open Go.RowKit

/-- The type of a term in a context, if both are valid. -/
def tyInO (xs : List Bd) (t : Tm) : Option Ty := if (ctxOk xs && vldM t) = true then tyM xs.reverse t else none

theorem ctx_vld {xs : List Bd} (h : ctxOk xs = true) : ∀ x ∈ xs.reverse, vld x.ty = true := fun x hx => by
  simp only [ctxOk, Bool.and_eq_true, List.all_eq_true] at h
  have := h.1 x (by simpa using hx)
  simp only [bdOk, Bool.and_eq_true] at this
  exact this.2

theorem shp_vldM {t : Tm} (h : vldM t = true) : shpM 12 t = true := by
  simp only [vldM, Bool.and_eq_true] at h
  exact h.1

theorem ctx_len {xs : List Bd} (h : ctxOk xs = true) : xs.length ≤ 12 := by
  simp only [ctxOk, Bool.and_eq_true, decide_eq_true_eq] at h
  exact h.2
end Go.Proofs.YtffmpjcjmffdeaaDoor

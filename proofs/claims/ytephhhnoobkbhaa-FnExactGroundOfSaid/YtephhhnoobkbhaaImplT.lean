/- The program's copies, meets and joins. -/
import Derived.Test.YtephhhnoobkbhaaWalkT
import Derived.Test.YtephhhnoobkbhaaRel
import Derived.Test.YtephhhnoobkbhaaMj
namespace Go.Proofs.Ytephhhnoobkbhaa
open Go.RowKit

def unkT : Ty → Ty → Ty := fun _ _ => .mk 1 []
def knownT : Ty → Ty → Ty
  | .mk k ts, u => if k = 1 then u else .mk k ts

theorem wf_any {ts : List Ty} (h : wf (.mk 1 ts)) : ts = [] := by
  have := (wf_mk h).1
  have : ts.length = 0 := by
    have e : kidsOf 1 = 0 := rfl
    omega
  exact List.length_eq_zero_iff.1 this

mutual
theorem wkT_copy : ∀ t : Ty, wf t → wkT unkT t t = t
  | .mk k ts, h => by
    simp only [wkT]
    by_cases hk : k = 1
    · subst hk
      obtain rfl := wf_any h
      simp [unkT]
    · rw [if_neg (by simp [hk]), wkTL_copy ts (wf_mk h).2]
theorem wkTL_copy : ∀ ts : List Ty, (∀ t ∈ ts, wf t) → wkTL unkT ts ts = ts
  | [], _ => by simp only [wkTL]
  | t :: ts, h => by simp only [wkTL]; rw [wkT_copy t (h t (by simp)), wkTL_copy ts (fun u hu => h u (by simp [hu]))]
end

mutual
theorem wkT_join : ∀ t u : Ty, wf t → wf u → wkT unkT t u = join t u
  | .mk k ts, .mk k' us, h, h' => by
    simp only [wkT, join]
    by_cases hkk : k = k'
    · subst hkk
      by_cases hk : k = 1
      · subst hk
        obtain rfl := wf_any h
        simp [unkT, joinL]
      · rw [if_neg (by simp [hk]), if_pos rfl, wkTL_join ts us (wf_mk h).2 (wf_mk h').2]
    · rw [if_pos (Or.inl hkk), if_neg hkk]
      rfl
theorem wkTL_join : ∀ ts us : List Ty, (∀ t ∈ ts, wf t) → (∀ t ∈ us, wf t) → wkTL unkT ts us = joinL ts us
  | [], _, _, _ => by simp only [wkTL, joinL]
  | _ :: _, [], _, _ => by simp only [wkTL, joinL]
  | t :: ts, u :: us, h, h' => by simp only [wkTL, joinL]; rw [wkT_join t u (h t (by simp)) (h' u (by simp)), wkTL_join ts us (fun u hu => h u (by simp [hu])) (fun u hu => h' u (by simp [hu]))]
end

mutual
theorem wkT_meet : ∀ t u : Ty, cons t u = true → wkT knownT t u = meet t u
  | .mk k ts, .mk k' us, hc => by
    simp only [wkT, meet, cons] at *
    by_cases hk : k = 1
    · subst hk
      simp [knownT]
    · by_cases hk' : k' = 1
      · subst hk'
        simp [knownT, hk]
      · rw [if_neg (by simp [hk, hk'])] at hc
        by_cases hkk : k = k'
        · subst hkk
          rw [if_pos rfl] at hc
          rw [if_neg (by simp [hk]), if_neg hk, if_neg hk, wkTL_meet ts us hc]
        · rw [if_neg hkk] at hc
          cases hc
theorem wkTL_meet : ∀ ts us : List Ty, consL ts us = true → wkTL knownT ts us = meetL ts us
  | [], _, _ => by simp only [wkTL, meetL]
  | _ :: _, [], _ => by simp only [wkTL, meetL]
  | t :: ts, u :: us, h => by
    simp only [consL, Bool.and_eq_true] at h
    simp only [wkTL, meetL]
    rw [wkT_meet t u h.1, wkTL_meet ts us h.2]
end

theorem boxes2 {w wr : World} {x y x2 y2 : Value} {T T2 : TypeId} (h : Below ((w.alloc (Obj.cells #[x, y] T)).alloc (Obj.cells #[x2, y2] T2)).heap.size ((w.alloc (Obj.cells #[x, y] T)).alloc (Obj.cells #[x2, y2] T2)) wr) :
    wr.cell? ⟨w.heap.size, 0, none⟩ = some x ∧ wr.cell? ⟨w.heap.size, 1, none⟩ = some y ∧ wr.cell? ⟨w.heap.size + 1, 0, none⟩ = some x2 ∧ wr.cell? ⟨w.heap.size + 1, 1, none⟩ = some y2 ∧ ∀ o, wr.frozen? ⟨w.heap.size + 1, o, none⟩ = false := by
  obtain ⟨a, b, c, d⟩ := box_cells2 h
  have hs : (w.alloc (Obj.cells #[x, y] T)).heap.size = w.heap.size + 1 := by simp
  have h1 : wr.heap[w.heap.size + 1]? = some (Obj.cells #[x2, y2] T2) := by
    rw [h.block (w.heap.size + 1) (by simp), ← hs]
    exact alloc_new _ _
  exact ⟨a, b, c, d, fun o => frozen_of_block h1⟩

/-- What a call says that hands back a tree and whether there is one. -/
def MadeTB (w : World) (t : Ty) (ok : Bool) (e : Ending) (w' : World) : Prop := ∃ v fp, e = .returned (.tuple #[v, .bool ok]) ∧ t.At w' v fp ∧ Fresh w.heap.size w' fp ∧ Below w.heap.size w w'

def meetOf (t u : Ty) : Ty := if consOf t u then meet t u else .mk 0 []
def joinOf (t u : Ty) : Ty := if vld t && vld u then join t u else .mk 0 []

end Go.Proofs.Ytephhhnoobkbhaa

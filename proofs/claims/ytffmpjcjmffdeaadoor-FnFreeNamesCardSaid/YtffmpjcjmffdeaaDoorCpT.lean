/- The program's copyType, at valid types and at the zero type. -/
import Derived.Test.YtffmpjcjmffdeaaDoorWalkT
namespace Go.Proofs.YtffmpjcjmffdeaaDoor
open Go.RowKit

def unkT : Ty → Ty → Ty := fun _ _ => .mk 1 []

theorem wf_any {ts : List Ty} (h : wf (.mk 1 ts)) : ts = [] := by
  have := (wf_mk h).1
  have : ts.length = 0 := by
    have e : kidsOf 1 = 0 := rfl
    omega
  exact List.length_eq_zero_iff.1 this

mutual
theorem wkT_copy : ∀ t : Ty, wf t → wkT unkT t t = t
  | .mk k ts, h => by
    simp only [wkT]
    by_cases hk : k = 1
    · subst hk
      obtain rfl := wf_any h
      simp [unkT]
    · rw [if_neg (by simp [hk]), wkTL_copy ts (wf_mk h).2]
theorem wkTL_copy : ∀ ts : List Ty, (∀ t ∈ ts, wf t) → wkTL unkT ts ts = ts
  | [], _ => by simp only [wkTL]
  | t :: ts, h => by simp only [wkTL]; rw [wkT_copy t (h t (by simp)), wkTL_copy ts (fun u hu => h u (by simp [hu]))]
end

set_option maxRecDepth 100000 in
theorem callOk_unknown : CallOkT 119 := fun _ _ => by kernel_rfl

set_option maxHeartbeats 400000 in
theorem unknown_any : ApT 119 unkT := by
  intro t u v1 v2 f1 f2 w h1 h2 _ _
  obtain ⟨k, m, a, cap, rfl⟩ := h1.agg
  obtain ⟨k', m', a', cap', rfl⟩ := h2.agg
  have hM : w.heap.size + 1 + 1 < (((w.alloc (Obj.cells #[.int .i64 k, .slice a m cap] 32)).alloc (Obj.cells #[.int .i64 k', .slice a' m' cap'] 32)).alloc (Obj.cells #[.int .i64 0, .slice none 0 0] 32)).heap.size := by simp
  have hbb := (((((Below.refl w.heap.size w).alloc (Nat.le_refl _) (Obj.cells #[.int .i64 k, .slice a m cap] 32)).alloc (by simp) (Obj.cells #[.int .i64 k', .slice a' m' cap'] 32)).alloc (by simp; omega) (Obj.cells #[.int .i64 0, .slice none 0 0] 32)).setCell (p := ⟨w.heap.size + 1 + 1, 0, none⟩) (by simp; omega) (.int .i64 1)).setCell (p := ⟨w.heap.size + 1 + 1, 1, none⟩) (by simp; omega) (.slice none 0 0)
  go_enter Tryd.func119, Tryd.ntmps119
  go_wp2_with fail
  exact bodyPost_ret (v := .agg #[.int .i64 1, .slice none 0 0]) (by simp [results, Tryd.results119, go_sem]) rfl ⟨_, [], rfl, Ty.at_mk.2 ⟨_, rfl, .inl ⟨rfl, rfl, none, 0, rfl⟩⟩, Fresh.nil _ _, by first | exact hbb | exact (((Below.refl _ _).alloc (Nat.le_refl _) _).alloc (by simp) _).alloc (by simp; omega) _⟩

theorem boxes2 {w wr : World} {x y x2 y2 : Value} {T T2 : TypeId} (h : Below ((w.alloc (Obj.cells #[x, y] T)).alloc (Obj.cells #[x2, y2] T2)).heap.size ((w.alloc (Obj.cells #[x, y] T)).alloc (Obj.cells #[x2, y2] T2)) wr) :
    wr.cell? ⟨w.heap.size, 0, none⟩ = some x ∧ wr.cell? ⟨w.heap.size, 1, none⟩ = some y ∧ wr.cell? ⟨w.heap.size + 1, 0, none⟩ = some x2 ∧ wr.cell? ⟨w.heap.size + 1, 1, none⟩ = some y2 ∧ ∀ o, wr.frozen? ⟨w.heap.size + 1, o, none⟩ = false := by
  obtain ⟨a, b, c, d⟩ := box_cells2 h
  have hs : (w.alloc (Obj.cells #[x, y] T)).heap.size = w.heap.size + 1 := by simp
  have h1 : wr.heap[w.heap.size + 1]? = some (Obj.cells #[x2, y2] T2) := by
    rw [h.block (w.heap.size + 1) (by simp), ← hs]
    exact alloc_new _ _
  exact ⟨a, b, c, d, fun o => frozen_of_block h1⟩

set_option maxRecDepth 100000 in
set_option maxHeartbeats 800000 in
theorem copyType_any (t : Ty) (v : Value) (fp : List Nat) (w : World) (h : t.At w v fp) (hw : wf t) : Calls Tryd.prog 63 #[v] w (MadeT w t) := by
  obtain ⟨k, m, a, cap, rfl⟩ := h.agg
  have hB := (((Below.refl w.heap.size w).alloc (Nat.le_refl _) (Obj.cells #[.int .i64 k, .slice a m cap] 32)).alloc (by simp) (Obj.cells #[.int .i64 0, .slice none 0 0] 32))
  have HT := hid (wkT_copy t hw)
  go_enter Tryd.func63, Tryd.ntmps63
  go_wp2_with fail
  refine (walkT_any _ _ unknown_any callOk_unknown t t _ _ _ _ _ (h.below hB) (h.below hB) hw hw).mono ?_
  rw [HT.out]
  rintro e w1 ⟨v, f, rfl, hat, hf, hb⟩
  obtain ⟨kr, nr, ar, capr, rfl⟩ := hat.agg
  obtain ⟨x0, x1, r0, r1, rz⟩ := boxes2 hb
  have hM : w.heap.size + 1 < w1.heap.size := by have := hb.size; simp at this; omega
  have hbb := ((alloc2 hb).setCell (p := ⟨w.heap.size + 1, 0, none⟩) (by simp) (.int .i64 kr)).setCell (p := ⟨w.heap.size + 1, 1, none⟩) (by simp) (.slice ar nr capr)
  have hkr := keepR (R := w.heap.size + 1) (x := .int .i64 kr) (y := .slice ar nr capr) hat hf (by simp)
  go_wp2_with fail
  exact bodyPost_ret (v := .agg #[.int .i64 kr, .slice ar nr capr]) (by simp [results, Tryd.results63, go_sem, r0, r1]) rfl ⟨_, f, rfl, hkr.1, hkr.2.mono (by simp; omega), hbb⟩

end Go.Proofs.YtffmpjcjmffdeaaDoor

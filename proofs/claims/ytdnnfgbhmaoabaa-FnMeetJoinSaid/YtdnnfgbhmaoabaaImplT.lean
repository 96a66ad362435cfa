/- The program's copies, meets and joins. -/
import Derived.Test.YtdnnfgbhmaoabaaWalkT
import Derived.Test.YtdnnfgbhmaoabaaRel
import Derived.Test.YtdnnfgbhmaoabaaMj
namespace Go.Proofs.Ytdnnfgbhmaoabaa
open Go.RowKit

def unkT : Ty → Ty → Ty := fun _ _ => .mk 1 []
def knownT : Ty → Ty → Ty
  | .mk k ts, u => if k = 1 then u else .mk k ts

theorem wf_any {ts : List Ty} (h : wf (.mk 1 ts)) : ts = [] := by
  have := (wf_mk h).1
  have : ts.length = 0 := by
    have e : kidsOf 1 = 0 := rfl
    omega
  exact List.length_eq_zero_iff.1 this

mutual
theorem wkT_copy : ∀ t : Ty, wf t → wkT unkT t t = t
  | .mk k ts, h => by
    simp only [wkT]
    by_cases hk : k = 1
    · subst hk
      obtain rfl := wf_any h
      simp [unkT]
    · rw [if_neg (by simp [hk]), wkTL_copy ts (wf_mk h).2]
theorem wkTL_copy : ∀ ts : List Ty, (∀ t ∈ ts, wf t) → wkTL unkT ts ts = ts
  | [], _ => by simp only [wkTL]
  | t :: ts, h => by simp only [wkTL]; rw [wkT_copy t (h t (by simp)), wkTL_copy ts (fun u hu => h u (by simp [hu]))]
end

mutual
theorem wkT_join : ∀ t u : Ty, wf t → wf u → wkT unkT t u = join t u
  | .mk k ts, .mk k' us, h, h' => by
    simp only [wkT, join]
    by_cases hkk : k = k'
    · subst hkk
      by_cases hk : k = 1
      · subst hk
        obtain rfl := wf_any h
        simp [unkT, joinL]
      · rw [if_neg (by simp [hk]), if_pos rfl, wkTL_join ts us (wf_mk h).2 (wf_mk h').2]
    · rw [if_pos (Or.inl hkk), if_neg hkk]
      rfl
theorem wkTL_join : ∀ ts us : List Ty, (∀ t ∈ ts, wf t) → (∀ t ∈ us, wf t) → wkTL unkT ts us = joinL ts us
  | [], _, _, _ => by simp only [wkTL, joinL]
  | _ :: _, [], _, _ => by simp only [wkTL, joinL]
  | t :: ts, u :: us, h, h' => by simp only [wkTL, joinL]; rw [wkT_join t u (h t (by simp)) (h' u (by simp)), wkTL_join ts us (fun u hu => h u (by simp [hu])) (fun u hu => h' u (by simp [hu]))]
end

mutual
theorem wkT_meet : ∀ t u : Ty, cons t u = true → wkT knownT t u = meet t u
  | .mk k ts, .mk k' us, hc => by
    simp only [wkT, meet, cons] at *
    by_cases hk : k = 1
    · subst hk
      simp [knownT]
    · by_cases hk' : k' = 1
      · subst hk'
        simp [knownT, hk]
      · rw [if_neg (by simp [hk, hk'])] at hc
        by_cases hkk : k = k'
        · subst hkk
          rw [if_pos rfl] at hc
          rw [if_neg (by simp [hk]), if_neg hk, if_neg hk, wkTL_meet ts us hc]
        · rw [if_neg hkk] at hc
          cases hc
theorem wkTL_meet : ∀ ts us : List Ty, consL ts us = true → wkTL knownT ts us = meetL ts us
  | [], _, _ => by simp only [wkTL, meetL]
  | _ :: _, [], _ => by simp only [wkTL, meetL]
  | t :: ts, u :: us, h => by
    simp only [consL, Bool.and_eq_true] at h
    simp only [wkTL, meetL]
    rw [wkT_meet t u h.1, wkTL_meet ts us h.2]
end

theorem callOk_unknown : CallOkT 13 := fun _ _ => by kernel_rfl
theorem callOk_known : CallOkT 19 := fun _ _ => by kernel_rfl

set_option maxHeartbeats 400000 in
theorem unknown_any : ApT 13 unkT := by
  intro t u v1 v2 f1 f2 w h1 h2 _ _
  obtain ⟨k, m, a, cap, rfl⟩ := h1.agg
  obtain ⟨k', m', a', cap', rfl⟩ := h2.agg
  have hM : w.heap.size + 1 + 1 < (((w.alloc (Obj.cells #[.int .i64 k, .slice a m cap] 25)).alloc (Obj.cells #[.int .i64 k', .slice a' m' cap'] 25)).alloc (Obj.cells #[.int .i64 0, .slice none 0 0] 25)).heap.size := by simp
  have hbb := (((((Below.refl w.heap.size w).alloc (Nat.le_refl _) (Obj.cells #[.int .i64 k, .slice a m cap] 25)).alloc (by simp) (Obj.cells #[.int .i64 k', .slice a' m' cap'] 25)).alloc (by simp; omega) (Obj.cells #[.int .i64 0, .slice none 0 0] 25)).setCell (p := ⟨w.heap.size + 1 + 1, 0, none⟩) (by simp; omega) (.int .i64 1)).setCell (p := ⟨w.heap.size + 1 + 1, 1, none⟩) (by simp; omega) (.slice none 0 0)
  go_enter Try.func13, Try.ntmps13
  go_wp2_with fail
  exact bodyPost_ret (v := .agg #[.int .i64 1, .slice none 0 0]) (by simp [results, Try.results13, go_sem]) rfl ⟨_, [], rfl, Ty.at_mk.2 ⟨_, rfl, .inl ⟨rfl, rfl, none, 0, rfl⟩⟩, Fresh.nil _ _, by first | exact hbb | exact (((Below.refl _ _).alloc (Nat.le_refl _) _).alloc (by simp) _).alloc (by simp; omega) _⟩

theorem boxes2 {w wr : World} {x y x2 y2 : Value} {T T2 : TypeId} (h : Below ((w.alloc (Obj.cells #[x, y] T)).alloc (Obj.cells #[x2, y2] T2)).heap.size ((w.alloc (Obj.cells #[x, y] T)).alloc (Obj.cells #[x2, y2] T2)) wr) :
    wr.cell? ⟨w.heap.size, 0, none⟩ = some x ∧ wr.cell? ⟨w.heap.size, 1, none⟩ = some y ∧ wr.cell? ⟨w.heap.size + 1, 0, none⟩ = some x2 ∧ wr.cell? ⟨w.heap.size + 1, 1, none⟩ = some y2 ∧ ∀ o, wr.frozen? ⟨w.heap.size + 1, o, none⟩ = false := by
  obtain ⟨a, b, c, d⟩ := box_cells2 h
  have hs : (w.alloc (Obj.cells #[x, y] T)).heap.size = w.heap.size + 1 := by simp
  have h1 : wr.heap[w.heap.size + 1]? = some (Obj.cells #[x2, y2] T2) := by
    rw [h.block (w.heap.size + 1) (by simp), ← hs]
    exact alloc_new _ _
  exact ⟨a, b, c, d, fun o => frozen_of_block h1⟩

set_option maxHeartbeats 800000 in
theorem copyType_any (t : Ty) (v : Value) (fp : List Nat) (w : World) (h : t.At w v fp) (hw : wf t) : Calls Try.prog 33 #[v] w (MadeT w t) := by
  obtain ⟨k, m, a, cap, rfl⟩ := h.agg
  have hB := (((Below.refl w.heap.size w).alloc (Nat.le_refl _) (Obj.cells #[.int .i64 k, .slice a m cap] 25)).alloc (by simp) (Obj.cells #[.int .i64 0, .slice none 0 0] 25))
  have HT := hid (wkT_copy t hw)
  go_enter Try.func33, Try.ntmps33
  go_wp2_with fail
  refine (walkT_any _ _ unknown_any callOk_unknown t t _ _ _ _ _ (h.below hB) (h.below hB) hw hw).mono ?_
  rw [HT.out]
  rintro e w1 ⟨v, f, rfl, hat, hf, hb⟩
  obtain ⟨kr, nr, ar, capr, rfl⟩ := hat.agg
  obtain ⟨x0, x1, r0, r1, rz⟩ := boxes2 hb
  have hM : w.heap.size + 1 < w1.heap.size := by have := hb.size; simp at this; omega
  have hbb := ((alloc2 hb).setCell (p := ⟨w.heap.size + 1, 0, none⟩) (by simp) (.int .i64 kr)).setCell (p := ⟨w.heap.size + 1, 1, none⟩) (by simp) (.slice ar nr capr)
  have hkr := keepR (R := w.heap.size + 1) (x := .int .i64 kr) (y := .slice ar nr capr) hat hf (by simp)
  go_wp2_with fail
  exact bodyPost_ret (v := .agg #[.int .i64 kr, .slice ar nr capr]) (by simp [results, Try.results33, go_sem, r0, r1]) rfl ⟨_, f, rfl, hkr.1, hkr.2.mono (by simp; omega), hbb⟩

set_option maxHeartbeats 800000 in
theorem known_any : ApT 19 knownT := by
  intro t u v1 v2 f1 f2 w h1 h2 hw1 hw2
  obtain ⟨k, ts, rfl⟩ := t.shape
  obtain ⟨s, rfl, hs⟩ := Ty.at_mk.1 h1
  obtain ⟨a, cap, rfl⟩ := hs.shape
  obtain ⟨k', m', a', cap', rfl⟩ := h2.agg
  generalize ts.length = m at *
  have hB := ((((Below.refl w.heap.size w).alloc (Nat.le_refl _) (Obj.cells #[.int .i64 k, .slice a m cap] 25)).alloc (by simp) (Obj.cells #[.int .i64 k', .slice a' m' cap'] 25)).alloc (by simp; omega) (Obj.cells #[.int .i64 0, .slice none 0 0] 25))
  by_cases hk : k = 1
  · have HT := hid (show knownT (.mk k ts) u = u by simp [knownT, hk])
    subst hk
    go_enter Try.func19, Try.ntmps19
    go_wp2_with fail
    refine (copyType_any u _ _ _ (h2.below hB) hw2).mono ?_
    rintro e w1 ⟨v, f, rfl, hat, hf, hb⟩
    obtain ⟨kr, nr, ar, capr, rfl⟩ := hat.agg
    obtain ⟨x0, x1, x2, x3, r0, r1, rz⟩ := boxes3 hb
    have hM : w.heap.size + 1 + 1 < w1.heap.size := by have := hb.size; simp at this; omega
    have hbb := ((alloc3 hb).setCell (p := ⟨w.heap.size + 1 + 1, 0, none⟩) (by simp; omega) (.int .i64 kr)).setCell (p := ⟨w.heap.size + 1 + 1, 1, none⟩) (by simp; omega) (.slice ar nr capr)
    have hkr := keepR (R := w.heap.size + 1 + 1) (x := .int .i64 kr) (y := .slice ar nr capr) hat hf (by simp)
    go_wp2_with fail
    exact bodyPost_ret (v := .agg #[.int .i64 kr, .slice ar nr capr]) (by simp [results, Try.results19, go_sem, r0, r1]) rfl ⟨_, f, rfl, by rw [HT.out]; exact hkr.1, hkr.2.mono (by simp; omega), hbb⟩
  · have HT := hid (show knownT (.mk k ts) u = .mk k ts by simp [knownT, hk])
    have hk1 : (k == 1) = false := by simpa using hk
    clear hk
    go_enter Try.func19, Try.ntmps19
    go_wp2_with fail
    refine (copyType_any (.mk k ts) _ _ _ (h1.below hB) hw1).mono ?_
    rintro e w1 ⟨v, f, rfl, hat, hf, hb⟩
    obtain ⟨kr, nr, ar, capr, rfl⟩ := hat.agg
    obtain ⟨x0, x1, x2, x3, r0, r1, rz⟩ := boxes3 hb
    have hM : w.heap.size + 1 + 1 < w1.heap.size := by have := hb.size; simp at this; omega
    have hbb := ((alloc3 hb).setCell (p := ⟨w.heap.size + 1 + 1, 0, none⟩) (by simp; omega) (.int .i64 kr)).setCell (p := ⟨w.heap.size + 1 + 1, 1, none⟩) (by simp; omega) (.slice ar nr capr)
    have hkr := keepR (R := w.heap.size + 1 + 1) (x := .int .i64 kr) (y := .slice ar nr capr) hat hf (by simp)
    go_wp2_with fail
    exact bodyPost_ret (v := .agg #[.int .i64 kr, .slice ar nr capr]) (by simp [results, Try.results19, go_sem, r0, r1]) rfl ⟨_, f, rfl, by rw [HT.out]; exact hkr.1, hkr.2.mono (by simp; omega), hbb⟩

/-- What a call says that hands back a tree and whether there is one. -/
def MadeTB (w : World) (t : Ty) (ok : Bool) (e : Ending) (w' : World) : Prop := ∃ v fp, e = .returned (.tuple #[v, .bool ok]) ∧ t.At w' v fp ∧ Fresh w.heap.size w' fp ∧ Below w.heap.size w w'

def meetOf (t u : Ty) : Ty := if consOf t u then meet t u else .mk 0 []
def joinOf (t u : Ty) : Ty := if vld t && vld u then join t u else .mk 0 []

end Go.Proofs.Ytdnnfgbhmaoabaa

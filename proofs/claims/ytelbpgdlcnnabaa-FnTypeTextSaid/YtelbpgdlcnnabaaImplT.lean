/- The program's copies, meets and joins. -/
import Derived.Test.YtelbpgdlcnnabaaCpT
import Derived.Test.YtelbpgdlcnnabaaWalkT
import Derived.Test.YtelbpgdlcnnabaaRel
import Derived.Test.YtelbpgdlcnnabaaMj
namespace Go.Proofs.Ytelbpgdlcnnabaa
open Go.RowKit

def knownT : Ty → Ty → Ty
  | .mk k ts, u => if k = 1 then u else .mk k ts


mutual
theorem wkT_join : ∀ t u : Ty, wf t → wf u → wkT unkT t u = join t u
  | .mk k ts, .mk k' us, h, h' => by
    simp only [wkT, join]
    by_cases hkk : k = k'
    · subst hkk
      by_cases hk : k = 1
      · subst hk
        obtain rfl := wf_any h
        simp [unkT, joinL]
      · rw [if_neg (by simp [hk]), if_pos rfl, wkTL_join ts us (wf_mk h).2 (wf_mk h').2]
    · rw [if_pos (Or.inl hkk), if_neg hkk]
      rfl
theorem wkTL_join : ∀ ts us : List Ty, (∀ t ∈ ts, wf t) → (∀ t ∈ us, wf t) → wkTL unkT ts us = joinL ts us
  | [], _, _, _ => by simp only [wkTL, joinL]
  | _ :: _, [], _, _ => by simp only [wkTL, joinL]
  | t :: ts, u :: us, h, h' => by simp only [wkTL, joinL]; rw [wkT_join t u (h t (by simp)) (h' u (by simp)), wkTL_join ts us (fun u hu => h u (by simp [hu])) (fun u hu => h' u (by simp [hu]))]
end

mutual
theorem wkT_meet : ∀ t u : Ty, cons t u = true → wkT knownT t u = meet t u
  | .mk k ts, .mk k' us, hc => by
    simp only [wkT, meet, cons] at *
    by_cases hk : k = 1
    · subst hk
      simp [knownT]
    · by_cases hk' : k' = 1
      · subst hk'
        simp [knownT, hk]
      · rw [if_neg (by simp [hk, hk'])] at hc
        by_cases hkk : k = k'
        · subst hkk
          rw [if_pos rfl] at hc
          rw [if_neg (by simp [hk]), if_neg hk, if_neg hk, wkTL_meet ts us hc]
        · rw [if_neg hkk] at hc
          cases hc
theorem wkTL_meet : ∀ ts us : List Ty, consL ts us = true → wkTL knownT ts us = meetL ts us
  | [], _, _ => by simp only [wkTL, meetL]
  | _ :: _, [], _ => by simp only [wkTL, meetL]
  | t :: ts, u :: us, h => by
    simp only [consL, Bool.and_eq_true] at h
    simp only [wkTL, meetL]
    rw [wkT_meet t u h.1, wkTL_meet ts us h.2]
end

theorem callOk_known : CallOkT 58 := fun _ _ => by kernel_rfl

set_option maxHeartbeats 800000 in
theorem known_any : ApT 58 knownT := by
  intro t u v1 v2 f1 f2 w h1 h2 hw1 hw2
  obtain ⟨k, ts, rfl⟩ := t.shape
  obtain ⟨s, rfl, hs⟩ := Ty.at_mk.1 h1
  obtain ⟨a, cap, rfl⟩ := hs.shape
  obtain ⟨k', m', a', cap', rfl⟩ := h2.agg
  generalize ts.length = m at *
  have hB := ((((Below.refl w.heap.size w).alloc (Nat.le_refl _) (Obj.cells #[.int .i64 k, .slice a m cap] 25)).alloc (by simp) (Obj.cells #[.int .i64 k', .slice a' m' cap'] 25)).alloc (by simp; omega) (Obj.cells #[.int .i64 0, .slice none 0 0] 25))
  by_cases hk : k = 1
  · have HT := hid (show knownT (.mk k ts) u = u by simp [knownT, hk])
    subst hk
    go_enter Try.func58, Try.ntmps58
    go_wp2_with fail
    refine (copyType_any u _ _ _ (h2.below hB) hw2).mono ?_
    rintro e w1 ⟨v, f, rfl, hat, hf, hb⟩
    obtain ⟨kr, nr, ar, capr, rfl⟩ := hat.agg
    obtain ⟨x0, x1, x2, x3, r0, r1, rz⟩ := boxes3 hb
    have hM : w.heap.size + 1 + 1 < w1.heap.size := by have := hb.size; simp at this; omega
    have hbb := ((alloc3 hb).setCell (p := ⟨w.heap.size + 1 + 1, 0, none⟩) (by simp; omega) (.int .i64 kr)).setCell (p := ⟨w.heap.size + 1 + 1, 1, none⟩) (by simp; omega) (.slice ar nr capr)
    have hkr := keepR (R := w.heap.size + 1 + 1) (x := .int .i64 kr) (y := .slice ar nr capr) hat hf (by simp)
    go_wp2_with fail
    exact bodyPost_ret (v := .agg #[.int .i64 kr, .slice ar nr capr]) (by simp [results, Try.results58, go_sem, r0, r1]) rfl ⟨_, f, rfl, by rw [HT.out]; exact hkr.1, hkr.2.mono (by simp; omega), hbb⟩
  · have HT := hid (show knownT (.mk k ts) u = .mk k ts by simp [knownT, hk])
    have hk1 : (k == 1) = false := by simpa using hk
    clear hk
    go_enter Try.func58, Try.ntmps58
    go_wp2_with fail
    refine (copyType_any (.mk k ts) _ _ _ (h1.below hB) hw1).mono ?_
    rintro e w1 ⟨v, f, rfl, hat, hf, hb⟩
    obtain ⟨kr, nr, ar, capr, rfl⟩ := hat.agg
    obtain ⟨x0, x1, x2, x3, r0, r1, rz⟩ := boxes3 hb
    have hM : w.heap.size + 1 + 1 < w1.heap.size := by have := hb.size; simp at this; omega
    have hbb := ((alloc3 hb).setCell (p := ⟨w.heap.size + 1 + 1, 0, none⟩) (by simp; omega) (.int .i64 kr)).setCell (p := ⟨w.heap.size + 1 + 1, 1, none⟩) (by simp; omega) (.slice ar nr capr)
    have hkr := keepR (R := w.heap.size + 1 + 1) (x := .int .i64 kr) (y := .slice ar nr capr) hat hf (by simp)
    go_wp2_with fail
    exact bodyPost_ret (v := .agg #[.int .i64 kr, .slice ar nr capr]) (by simp [results, Try.results58, go_sem, r0, r1]) rfl ⟨_, f, rfl, by rw [HT.out]; exact hkr.1, hkr.2.mono (by simp; omega), hbb⟩

/-- What a call says that hands back a tree and whether there is one. -/
def MadeTB (w : World) (t : Ty) (ok : Bool) (e : Ending) (w' : World) : Prop := ∃ v fp, e = .returned (.tuple #[v, .bool ok]) ∧ t.At w' v fp ∧ Fresh w.heap.size w' fp ∧ Below w.heap.size w w'

def meetOf (t u : Ty) : Ty := if consOf t u then meet t u else .mk 0 []
def joinOf (t u : Ty) : Ty := if vld t && vld u then join t u else .mk 0 []

end Go.Proofs.Ytelbpgdlcnnabaa

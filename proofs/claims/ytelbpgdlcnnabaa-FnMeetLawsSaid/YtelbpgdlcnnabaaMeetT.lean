/- The specification's MeetTypes. -/
import Derived.Test.YtelbpgdlcnnabaaMeetS
import Derived.Test.YtelbpgdlcnnabaaImplT
namespace Go.Proofs.Ytelbpgdlcnnabaa
open Go.RowKit

set_option maxHeartbeats 800000 in
theorem l1Meet_left (k : Int) (ts : List Ty) (k' : Int) (us : List Ty) (hk : k = 1) (v1 v2 : Value) (f1 f2 : List Nat) (w : World) (h1 : Ty.At w (.mk k ts) v1 f1) (h2 : Ty.At w (.mk k' us) v2 f2) (hn2 : (Ty.mk k' us).cnt ≤ 1048576) :
    Calls Try.prog 61 #[v1, v2] w (MadeT w (meet (.mk k ts) (.mk k' us))) := by
  obtain ⟨s, rfl, hs⟩ := Ty.at_mk.1 h1
  obtain ⟨a, cap, rfl⟩ := hs.shape
  obtain ⟨s', rfl, hs'⟩ := Ty.at_mk.1 h2
  obtain ⟨a', cap', rfl⟩ := hs'.shape
  generalize ts.length = m at *
  generalize us.length = m' at *
  have hB := ((((Below.refl w.heap.size w).alloc (Nat.le_refl _) (Obj.cells #[.int .i64 k, .slice a m cap] 25)).alloc (by simp) (Obj.cells #[.int .i64 k', .slice a' m' cap'] 25)).alloc (by simp; omega) (Obj.cells #[.int .i64 0, .slice none 0 0] 25))
  have HT := hid (show meet (.mk k ts) (.mk k' us) = (Ty.mk k' us) by simp [meet, hk])
  have HN := hid hn2
  clear hn2
  subst hk
  go_enter Try.func61, Try.ntmps61
  go_wp2_with fail
  refine (l1Copy_any (Ty.mk k' us) _ _ _ (h2.below hB) HN.out).mono ?_
  rintro e w1 ⟨v, f, rfl, hat, hf, hb⟩
  obtain ⟨kr, nr, ar, capr, rfl⟩ := hat.agg
  obtain ⟨x0, x1, x2, x3, r0, r1, rz⟩ := boxes3 hb
  have hM : w.heap.size + 1 + 1 < w1.heap.size := by have := hb.size; simp at this; omega
  have hbb := ((alloc3 hb).setCell (p := ⟨w.heap.size + 1 + 1, 0, none⟩) (by simp; omega) (.int .i64 kr)).setCell (p := ⟨w.heap.size + 1 + 1, 1, none⟩) (by simp; omega) (.slice ar nr capr)
  have hkr := keepR (R := w.heap.size + 1 + 1) (x := .int .i64 kr) (y := .slice ar nr capr) hat hf (by simp)
  go_wp2_with fail
  exact bodyPost_ret (v := .agg #[.int .i64 kr, .slice ar nr capr]) (by simp [results, Try.results61, go_sem, r0, r1]) rfl ⟨_, f, rfl, by rw [HT.out]; exact hkr.1, hkr.2.mono (by simp; omega), hbb⟩

set_option maxHeartbeats 800000 in
theorem l1Meet_right (k : Int) (ts : List Ty) (k' : Int) (us : List Ty) (hk : k ≠ 1) (hk' : k' = 1) (v1 v2 : Value) (f1 f2 : List Nat) (w : World) (h1 : Ty.At w (.mk k ts) v1 f1) (h2 : Ty.At w (.mk k' us) v2 f2) (hn1 : (Ty.mk k ts).cnt ≤ 1048576) :
    Calls Try.prog 61 #[v1, v2] w (MadeT w (meet (.mk k ts) (.mk k' us))) := by
  obtain ⟨s, rfl, hs⟩ := Ty.at_mk.1 h1
  obtain ⟨a, cap, rfl⟩ := hs.shape
  obtain ⟨s', rfl, hs'⟩ := Ty.at_mk.1 h2
  obtain ⟨a', cap', rfl⟩ := hs'.shape
  generalize ts.length = m at *
  generalize us.length = m' at *
  have hB := ((((Below.refl w.heap.size w).alloc (Nat.le_refl _) (Obj.cells #[.int .i64 k, .slice a m cap] 25)).alloc (by simp) (Obj.cells #[.int .i64 k', .slice a' m' cap'] 25)).alloc (by simp; omega) (Obj.cells #[.int .i64 0, .slice none 0 0] 25))
  have HT := hid (show meet (.mk k ts) (.mk k' us) = (Ty.mk k ts) by simp [meet, hk, hk'])
  have HN := hid hn1
  clear hn1
  have hk1 : (k == 1) = false := by simpa using hk
  subst hk'
  clear hk
  go_enter Try.func61, Try.ntmps61
  go_wp2_with fail
  refine (l1Copy_any (Ty.mk k ts) _ _ _ (h1.below hB) HN.out).mono ?_
  rintro e w1 ⟨v, f, rfl, hat, hf, hb⟩
  obtain ⟨kr, nr, ar, capr, rfl⟩ := hat.agg
  obtain ⟨x0, x1, x2, x3, r0, r1, rz⟩ := boxes3 hb
  have hM : w.heap.size + 1 + 1 < w1.heap.size := by have := hb.size; simp at this; omega
  have hbb := ((alloc3 hb).setCell (p := ⟨w.heap.size + 1 + 1, 0, none⟩) (by simp; omega) (.int .i64 kr)).setCell (p := ⟨w.heap.size + 1 + 1, 1, none⟩) (by simp; omega) (.slice ar nr capr)
  have hkr := keepR (R := w.heap.size + 1 + 1) (x := .int .i64 kr) (y := .slice ar nr capr) hat hf (by simp)
  go_wp2_with fail
  exact bodyPost_ret (v := .agg #[.int .i64 kr, .slice ar nr capr]) (by simp [results, Try.results61, go_sem, r0, r1]) rfl ⟨_, f, rfl, by rw [HT.out]; exact hkr.1, hkr.2.mono (by simp; omega), hbb⟩

theorem l1Meet_any : ∀ t : Ty, MtC t := Ty.ind fun k ts ih => by
  intro u v1 v2 f1 f2 w h1 h2 hw1 hw2 hc hn1 hn2
  obtain ⟨k', us, rfl⟩ := u.shape
  by_cases hk : k = 1
  · exact l1Meet_left k ts k' us hk v1 v2 f1 f2 w h1 h2 hn2
  · by_cases hk' : k' = 1
    · exact l1Meet_right k ts k' us hk hk' v1 v2 f1 f2 w h1 h2 hn1
    · simp only [cons] at hc
      rw [if_neg (by simp [hk, hk'])] at hc
      by_cases hkk : k = k'
      · subst hkk
        rw [if_pos rfl] at hc
        exact l1Meet_build k ts us ih hk (wf_len hw1 hw2) (wf_mk hw1).2 (wf_mk hw2).2 hc hn1 hn2 (by simp [meet, hk]) v1 v2 f1 f2 w h1 h2
      · rw [if_neg hkk] at hc
        cases hc

set_option maxHeartbeats 800000 in
theorem specMeetTypes (t u : Ty) (v1 v2 : Value) (f1 f2 : List Nat) (w : World) (h1 : t.At w v1 f1) (h2 : u.At w v2 f2) (hn1 : t.cnt ≤ 1048576) (hn2 : u.cnt ≤ 1048576) :
    Calls Try.prog 16 #[v1, v2] w (MadeTB w (meetOf t u) (consOf t u)) := by
  obtain ⟨k, m, a, cap, rfl⟩ := h1.agg
  obtain ⟨k', m', a', cap', rfl⟩ := h2.agg
  have hB := ((((Below.refl w.heap.size w).alloc (Nat.le_refl _) (Obj.cells #[.int .i64 k, .slice a m cap] 25)).alloc (by simp) (Obj.cells #[.int .i64 k', .slice a' m' cap'] 25)).alloc (by simp; omega) (Obj.cells #[.int .i64 0, .slice none 0 0] 25))
  have HN1 := hid hn1
  have HN2 := hid hn2
  clear hn1 hn2
  cases hv : consOf t u with
  | false =>
    have HT := hid (show meetOf t u = .mk 0 [] by simp [meetOf, hv])
    have HV := hid hv
    clear hv
    go_enter Try.func16, Try.ntmps16
    go_wp2_with fail
    refine (specConsistent t u _ _ _ _ _ (h1.below hB) (h2.below hB)).mono ?_
    rintro e w1 ⟨he, hb3⟩
    rw [HV.out] at he
    subst he
    obtain ⟨x0, x1, x2, x3, r0, r1, rz⟩ := boxes3 hb3
    have hM : w.heap.size + 1 + 1 < w1.heap.size := by have := hb3.size; simp at this; omega
    have hbb := ((alloc3 hb3).setCell (p := ⟨w.heap.size + 1 + 1, 0, none⟩) (by simp; omega) (.int .i64 0)).setCell (p := ⟨w.heap.size + 1 + 1, 1, none⟩) (by simp; omega) (.slice none 0 0)
    go_wp2_with fail
    exact bodyPost_ret (v := .tuple #[.agg #[.int .i64 0, .slice none 0 0], .bool false]) (by simp [results, Try.results16, go_sem, r0, r1]) rfl ⟨_, [], rfl, by rw [HT.out]; exact Ty.at_mk.2 ⟨_, rfl, .inl ⟨rfl, rfl, none, 0, rfl⟩⟩, Fresh.nil _ _, hbb⟩
  | true =>
    have HT := hid (show meetOf t u = meet t u by simp [meetOf, hv])
    have hv3 := hv
    simp only [consOf, Bool.and_eq_true] at hv3
    have HW1 := hid (wf_of_vld hv3.1.1)
    have HW2 := hid (wf_of_vld hv3.1.2)
    have HC := hid hv3.2
    have HV := hid hv
    clear hv hv3
    go_enter Try.func16, Try.ntmps16
    go_wp2_with fail
    refine (specConsistent t u _ _ _ _ _ (h1.below hB) (h2.below hB)).mono ?_
    rintro e w1 ⟨he, hb3⟩
    rw [HV.out] at he
    subst he
    obtain ⟨x0, x1, x2, x3, r0, r1, rz⟩ := boxes3 hb3
    go_wp2_with fail
    refine (l1Meet_any t u _ _ _ _ _ ((h1.below hB).below hb3) ((h2.below hB).below hb3) HW1.out HW2.out HC.out HN1.out HN2.out).mono ?_
    skip
    rintro e wr ⟨v, f, rfl, hat, hf, hbr⟩
    clear x0 x1 x2 x3 r0 r1 rz
    obtain ⟨kr, nr, ar, capr, rfl⟩ := hat.agg
    have hb4 := hb3.trans (hbr.mono hb3.size)
    obtain ⟨x0, x1, x2, x3, r0, r1, rz⟩ := boxes3 hb4
    have hM : w.heap.size + 1 + 1 < wr.heap.size := by have := hb4.size; simp at this; omega
    have hbb := ((alloc3 hb4).setCell (p := ⟨w.heap.size + 1 + 1, 0, none⟩) (by simp; omega) (.int .i64 kr)).setCell (p := ⟨w.heap.size + 1 + 1, 1, none⟩) (by simp; omega) (.slice ar nr capr)
    have hkr := keepR (R := w.heap.size + 1 + 1) (x := .int .i64 kr) (y := .slice ar nr capr) hat hf (by have := hb3.size; simp at this; omega)
    go_wp2_with fail
    exact bodyPost_ret (v := .tuple #[.agg #[.int .i64 kr, .slice ar nr capr], .bool true]) (by simp [results, Try.results16, go_sem, r0, r1]) rfl ⟨_, f, rfl, by rw [HT.out]; exact hkr.1, hkr.2.mono (by have := hb3.size; simp at this; omega), hbb⟩

end Go.Proofs.Ytelbpgdlcnnabaa

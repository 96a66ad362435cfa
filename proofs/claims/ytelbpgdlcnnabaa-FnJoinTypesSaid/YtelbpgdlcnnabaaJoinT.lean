/- The specification's JoinTypes. -/
import Derived.Test.YtelbpgdlcnnabaaJoinS
import Derived.Test.YtelbpgdlcnnabaaImplT
namespace Go.Proofs.Ytelbpgdlcnnabaa
open Go.RowKit

set_option maxHeartbeats 800000 in
theorem l1Join_apart (k : Int) (ts : List Ty) (k' : Int) (us : List Ty) (hk : k ≠ k') (v1 v2 : Value) (f1 f2 : List Nat) (w : World) (h1 : Ty.At w (.mk k ts) v1 f1) (h2 : Ty.At w (.mk k' us) v2 f2) :
    Calls Try.prog 72 #[v1, v2] w (MadeT w (join (.mk k ts) (.mk k' us))) := by
  obtain ⟨s, rfl, hs⟩ := Ty.at_mk.1 h1
  obtain ⟨a, cap, rfl⟩ := hs.shape
  obtain ⟨s', rfl, hs'⟩ := Ty.at_mk.1 h2
  obtain ⟨a', cap', rfl⟩ := hs'.shape
  generalize ts.length = m at *
  generalize us.length = m' at *
  have HT := hid (show join (.mk k ts) (.mk k' us) = .mk 1 [] by simp [join, hk])
  have hk1 : (k == k') = false := by simpa using hk
  have hk2 : (k != k') = true := by simpa using hk
  clear hk
  go_enter Try.func72, Try.ntmps72
  go_wp2_with fail
  refine (l1Any_any _).mono ?_
  rintro e w1 ⟨rfl, hb⟩
  obtain ⟨x0, x1, x2, x3, r0, r1, rz⟩ := boxes3 hb
  have hM : w.heap.size + 1 + 1 < w1.heap.size := by have := hb.size; simp at this; omega
  have hbb := ((alloc3 hb).setCell (p := ⟨w.heap.size + 1 + 1, 0, none⟩) (by simp; omega) (.int .i64 1)).setCell (p := ⟨w.heap.size + 1 + 1, 1, none⟩) (by simp; omega) (.slice none 0 0)
  go_wp2_with fail
  exact bodyPost_ret (v := .agg #[.int .i64 1, .slice none 0 0]) (by simp [results, Try.results72, go_sem, r0, r1]) rfl ⟨_, [], rfl, by rw [HT.out]; exact Ty.at_mk.2 ⟨_, rfl, .inl ⟨rfl, rfl, none, 0, rfl⟩⟩, Fresh.nil _ _, hbb⟩

theorem l1Join_any : ∀ t : Ty, JnC t := Ty.ind fun k ts ih => by
  intro u v1 v2 f1 f2 w h1 h2 hw1 hw2 hn1 hn2
  obtain ⟨k', us, rfl⟩ := u.shape
  by_cases hkk : k = k'
  · subst hkk
    exact l1Join_build k ts us ih (wf_len hw1 hw2) (wf_mk hw1).2 (wf_mk hw2).2 hn1 hn2 (by simp [join]) v1 v2 f1 f2 w h1 h2
  · exact l1Join_apart k ts k' us hkk v1 v2 f1 f2 w h1 h2

set_option maxHeartbeats 800000 in
theorem specJoinTypes (t u : Ty) (v1 v2 : Value) (f1 f2 : List Nat) (w : World) (h1 : t.At w v1 f1) (h2 : u.At w v2 f2) (hn1 : t.cnt ≤ 1048576) (hn2 : u.cnt ≤ 1048576) :
    Calls Try.prog 22 #[v1, v2] w (MadeTB w (joinOf t u) (vld t && vld u)) := by
  obtain ⟨k, m, a, cap, rfl⟩ := h1.agg
  obtain ⟨k', m', a', cap', rfl⟩ := h2.agg
  have hB := ((((Below.refl w.heap.size w).alloc (Nat.le_refl _) (Obj.cells #[.int .i64 k, .slice a m cap] 25)).alloc (by simp) (Obj.cells #[.int .i64 k', .slice a' m' cap'] 25)).alloc (by simp; omega) (Obj.cells #[.int .i64 0, .slice none 0 0] 25))
  have HN1 := hid hn1
  have HN2 := hid hn2
  clear hn1 hn2
  cases hv : vld t with
  | false =>
    have HT := hid (show joinOf t u = .mk 0 [] by simp [joinOf, hv])
    have HV := hid hv
    clear hv
    rw [Bool.false_and]
    go_enter Try.func22, Try.ntmps22
    go_wp2_with fail
    refine (specTypeValid_any t _ _ _ (h1.below hB)).mono ?_
    rintro e w1 ⟨he, hb3⟩
    rw [HV.out] at he
    subst he
    obtain ⟨x0, x1, x2, x3, r0, r1, rz⟩ := boxes3 hb3
    have hM : w.heap.size + 1 + 1 < w1.heap.size := by have := hb3.size; simp at this; omega
    have hbb := ((alloc3 hb3).setCell (p := ⟨w.heap.size + 1 + 1, 0, none⟩) (by simp; omega) (.int .i64 0)).setCell (p := ⟨w.heap.size + 1 + 1, 1, none⟩) (by simp; omega) (.slice none 0 0)
    go_wp2_with fail
    exact bodyPost_ret (v := .tuple #[.agg #[.int .i64 0, .slice none 0 0], .bool false]) (by simp [results, Try.results22, go_sem, r0, r1]) rfl ⟨_, [], rfl, by rw [HT.out]; exact Ty.at_mk.2 ⟨_, rfl, .inl ⟨rfl, rfl, none, 0, rfl⟩⟩, Fresh.nil _ _, hbb⟩
  | true =>
  rw [Bool.true_and]
  cases hv2 : vld u with
  | false =>
    have HT := hid (show joinOf t u = .mk 0 [] by simp [joinOf, hv2])
    have HV := hid hv
    have HV2 := hid hv2
    clear hv hv2
    go_enter Try.func22, Try.ntmps22
    go_wp2_with fail
    refine (specTypeValid_any t _ _ _ (h1.below hB)).mono ?_
    rintro e w1 ⟨he, hb1⟩
    rw [HV.out] at he
    subst he
    obtain ⟨x0, x1, x2, x3, r0, r1, rz⟩ := boxes3 hb1
    go_wp2_with fail
    refine (specTypeValid_any u _ _ _ ((h2.below hB).below hb1)).mono ?_
    rintro e w2 ⟨he, hb2⟩
    rw [HV2.out] at he
    subst he
    have hb3 := hb1.trans (hb2.mono hb1.size)
    clear x0 x1 x2 x3 r0 r1 rz
    obtain ⟨x0, x1, x2, x3, r0, r1, rz⟩ := boxes3 hb3
    have hM : w.heap.size + 1 + 1 < w2.heap.size := by have := hb3.size; simp at this; omega
    have hbb := ((alloc3 hb3).setCell (p := ⟨w.heap.size + 1 + 1, 0, none⟩) (by simp; omega) (.int .i64 0)).setCell (p := ⟨w.heap.size + 1 + 1, 1, none⟩) (by simp; omega) (.slice none 0 0)
    go_wp2_with fail
    exact bodyPost_ret (v := .tuple #[.agg #[.int .i64 0, .slice none 0 0], .bool false]) (by simp [results, Try.results22, go_sem, r0, r1]) rfl ⟨_, [], rfl, by rw [HT.out]; exact Ty.at_mk.2 ⟨_, rfl, .inl ⟨rfl, rfl, none, 0, rfl⟩⟩, Fresh.nil _ _, hbb⟩
  | true =>
    have HT := hid (show joinOf t u = join t u by simp [joinOf, hv, hv2])
    have HW1 := hid (wf_of_vld hv)
    have HW2 := hid (wf_of_vld hv2)
    have HV := hid hv
    have HV2 := hid hv2
    clear hv hv2
    go_enter Try.func22, Try.ntmps22
    go_wp2_with fail
    refine (specTypeValid_any t _ _ _ (h1.below hB)).mono ?_
    rintro e w1 ⟨he, hb1⟩
    rw [HV.out] at he
    subst he
    obtain ⟨x0, x1, x2, x3, r0, r1, rz⟩ := boxes3 hb1
    go_wp2_with fail
    refine (specTypeValid_any u _ _ _ ((h2.below hB).below hb1)).mono ?_
    rintro e w2 ⟨he, hb2⟩
    rw [HV2.out] at he
    subst he
    have hb3 := hb1.trans (hb2.mono hb1.size)
    replace x0 := cell_keep x0 hb2
    replace x1 := cell_keep x1 hb2
    replace x2 := cell_keep x2 hb2
    replace x3 := cell_keep x3 hb2
    clear r0 r1 rz
    go_wp2_with fail
    refine (l1Join_any t u _ _ _ _ _ ((h1.below hB).below hb3) ((h2.below hB).below hb3) HW1.out HW2.out HN1.out HN2.out).mono ?_
    skip
    rintro e wr ⟨v, f, rfl, hat, hf, hbr⟩
    clear x0 x1 x2 x3
    obtain ⟨kr, nr, ar, capr, rfl⟩ := hat.agg
    have hb4 := hb3.trans (hbr.mono hb3.size)
    obtain ⟨x0, x1, x2, x3, r0, r1, rz⟩ := boxes3 hb4
    have hM : w.heap.size + 1 + 1 < wr.heap.size := by have := hb4.size; simp at this; omega
    have hbb := ((alloc3 hb4).setCell (p := ⟨w.heap.size + 1 + 1, 0, none⟩) (by simp; omega) (.int .i64 kr)).setCell (p := ⟨w.heap.size + 1 + 1, 1, none⟩) (by simp; omega) (.slice ar nr capr)
    have hkr := keepR (R := w.heap.size + 1 + 1) (x := .int .i64 kr) (y := .slice ar nr capr) hat hf (by have := hb3.size; simp at this; omega)
    go_wp2_with fail
    exact bodyPost_ret (v := .tuple #[.agg #[.int .i64 kr, .slice ar nr capr], .bool true]) (by simp [results, Try.results22, go_sem, r0, r1]) rfl ⟨_, f, rfl, by rw [HT.out]; exact hkr.1, hkr.2.mono (by have := hb3.size; simp at this; omega), hbb⟩

end Go.Proofs.Ytelbpgdlcnnabaa

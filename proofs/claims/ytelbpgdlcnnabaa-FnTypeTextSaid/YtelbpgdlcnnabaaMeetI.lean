/- The program's MeetTypes and JoinTypes. -/
import Derived.Test.YtelbpgdlcnnabaaImplT
namespace Go.Proofs.Ytelbpgdlcnnabaa
open Go.RowKit

set_option maxHeartbeats 800000 in
theorem implMeetTypes (t u : Ty) (v1 v2 : Value) (f1 f2 : List Nat) (w : World) (h1 : t.At w v1 f1) (h2 : u.At w v2 f2) (hn1 : t.cnt ≤ 1048576) (hn2 : u.cnt ≤ 1048576) :
    Calls Try.prog 15 #[v1, v2] w (MadeTB w (meetOf t u) (consOf t u)) := by
  obtain ⟨k, m, a, cap, rfl⟩ := h1.agg
  obtain ⟨k', m', a', cap', rfl⟩ := h2.agg
  have hB := ((((Below.refl w.heap.size w).alloc (Nat.le_refl _) (Obj.cells #[.int .i64 k, .slice a m cap] 25)).alloc (by simp) (Obj.cells #[.int .i64 k', .slice a' m' cap'] 25)).alloc (by simp; omega) (Obj.cells #[.int .i64 0, .slice none 0 0] 25))
  have HN1 := hid hn1
  have HN2 := hid hn2
  clear hn1 hn2
  cases hv : consOf t u with
  | false =>
    have HT := hid (show meetOf t u = .mk 0 [] by simp [meetOf, hv])
    have HV := hid hv
    clear hv
    go_enter Try.func15, Try.ntmps15
    go_wp2_with fail
    refine (implConsistent t u _ _ _ _ _ (h1.below hB) (h2.below hB)).mono ?_
    rintro e w1 ⟨he, hb3⟩
    rw [HV.out] at he
    subst he
    obtain ⟨x0, x1, x2, x3, r0, r1, rz⟩ := boxes3 hb3
    have hM : w.heap.size + 1 + 1 < w1.heap.size := by have := hb3.size; simp at this; omega
    have hbb := ((alloc3 hb3).setCell (p := ⟨w.heap.size + 1 + 1, 0, none⟩) (by simp; omega) (.int .i64 0)).setCell (p := ⟨w.heap.size + 1 + 1, 1, none⟩) (by simp; omega) (.slice none 0 0)
    go_wp2_with fail
    exact bodyPost_ret (v := .tuple #[.agg #[.int .i64 0, .slice none 0 0], .bool false]) (by simp [results, Try.results15, go_sem, r0, r1]) rfl ⟨_, [], rfl, by rw [HT.out]; exact Ty.at_mk.2 ⟨_, rfl, .inl ⟨rfl, rfl, none, 0, rfl⟩⟩, Fresh.nil _ _, hbb⟩
  | true =>
    have HT := hid (show meetOf t u = meet t u by simp [meetOf, hv])
    have hv3 := hv
    simp only [consOf, Bool.and_eq_true] at hv3
    have HW1 := hid (wf_of_vld hv3.1.1)
    have HW2 := hid (wf_of_vld hv3.1.2)
    have HC := hid hv3.2
    have HV := hid hv
    clear hv hv3
    go_enter Try.func15, Try.ntmps15
    go_wp2_with fail
    refine (implConsistent t u _ _ _ _ _ (h1.below hB) (h2.below hB)).mono ?_
    rintro e w1 ⟨he, hb3⟩
    rw [HV.out] at he
    subst he
    obtain ⟨x0, x1, x2, x3, r0, r1, rz⟩ := boxes3 hb3
    go_wp2_with fail
    refine (walkT_any _ _ known_any callOk_known t u _ _ _ _ _ ((h1.below hB).below hb3) ((h2.below hB).below hb3) HW1.out HW2.out).mono ?_
    rw [wkT_meet t u HC.out]
    rintro e wr ⟨v, f, rfl, hat, hf, hbr⟩
    clear x0 x1 x2 x3 r0 r1 rz
    obtain ⟨kr, nr, ar, capr, rfl⟩ := hat.agg
    have hb4 := hb3.trans (hbr.mono hb3.size)
    obtain ⟨x0, x1, x2, x3, r0, r1, rz⟩ := boxes3 hb4
    have hM : w.heap.size + 1 + 1 < wr.heap.size := by have := hb4.size; simp at this; omega
    have hbb := ((alloc3 hb4).setCell (p := ⟨w.heap.size + 1 + 1, 0, none⟩) (by simp; omega) (.int .i64 kr)).setCell (p := ⟨w.heap.size + 1 + 1, 1, none⟩) (by simp; omega) (.slice ar nr capr)
    have hkr := keepR (R := w.heap.size + 1 + 1) (x := .int .i64 kr) (y := .slice ar nr capr) hat hf (by have := hb3.size; simp at this; omega)
    go_wp2_with fail
    exact bodyPost_ret (v := .tuple #[.agg #[.int .i64 kr, .slice ar nr capr], .bool true]) (by simp [results, Try.results15, go_sem, r0, r1]) rfl ⟨_, f, rfl, by rw [HT.out]; exact hkr.1, hkr.2.mono (by have := hb3.size; simp at this; omega), hbb⟩

set_option maxHeartbeats 800000 in
theorem implJoinTypes (t u : Ty) (v1 v2 : Value) (f1 f2 : List Nat) (w : World) (h1 : t.At w v1 f1) (h2 : u.At w v2 f2) (hn1 : t.cnt ≤ 1048576) (hn2 : u.cnt ≤ 1048576) :
    Calls Try.prog 21 #[v1, v2] w (MadeTB w (joinOf t u) (vld t && vld u)) := by
  obtain ⟨k, m, a, cap, rfl⟩ := h1.agg
  obtain ⟨k', m', a', cap', rfl⟩ := h2.agg
  have hB := ((((Below.refl w.heap.size w).alloc (Nat.le_refl _) (Obj.cells #[.int .i64 k, .slice a m cap] 25)).alloc (by simp) (Obj.cells #[.int .i64 k', .slice a' m' cap'] 25)).alloc (by simp; omega) (Obj.cells #[.int .i64 0, .slice none 0 0] 25))
  have HN1 := hid hn1
  have HN2 := hid hn2
  clear hn1 hn2
  cases hv : vld t with
  | false =>
    have HT := hid (show joinOf t u = .mk 0 [] by simp [joinOf, hv])
    have HV := hid hv
    clear hv
    rw [Bool.false_and]
    go_enter Try.func21, Try.ntmps21
    go_wp2_with fail
    refine (implTypeValid_any t _ _ _ (h1.below hB)).mono ?_
    rintro e w1 ⟨he, hb3⟩
    rw [HV.out] at he
    subst he
    obtain ⟨x0, x1, x2, x3, r0, r1, rz⟩ := boxes3 hb3
    have hM : w.heap.size + 1 + 1 < w1.heap.size := by have := hb3.size; simp at this; omega
    have hbb := ((alloc3 hb3).setCell (p := ⟨w.heap.size + 1 + 1, 0, none⟩) (by simp; omega) (.int .i64 0)).setCell (p := ⟨w.heap.size + 1 + 1, 1, none⟩) (by simp; omega) (.slice none 0 0)
    go_wp2_with fail
    exact bodyPost_ret (v := .tuple #[.agg #[.int .i64 0, .slice none 0 0], .bool false]) (by simp [results, Try.results21, go_sem, r0, r1]) rfl ⟨_, [], rfl, by rw [HT.out]; exact Ty.at_mk.2 ⟨_, rfl, .inl ⟨rfl, rfl, none, 0, rfl⟩⟩, Fresh.nil _ _, hbb⟩
  | true =>
  rw [Bool.true_and]
  cases hv2 : vld u with
  | false =>
    have HT := hid (show joinOf t u = .mk 0 [] by simp [joinOf, hv2])
    have HV := hid hv
    have HV2 := hid hv2
    clear hv hv2
    go_enter Try.func21, Try.ntmps21
    go_wp2_with fail
    refine (implTypeValid_any t _ _ _ (h1.below hB)).mono ?_
    rintro e w1 ⟨he, hb1⟩
    rw [HV.out] at he
    subst he
    obtain ⟨x0, x1, x2, x3, r0, r1, rz⟩ := boxes3 hb1
    go_wp2_with fail
    refine (implTypeValid_any u _ _ _ ((h2.below hB).below hb1)).mono ?_
    rintro e w2 ⟨he, hb2⟩
    rw [HV2.out] at he
    subst he
    have hb3 := hb1.trans (hb2.mono hb1.size)
    clear x0 x1 x2 x3 r0 r1 rz
    obtain ⟨x0, x1, x2, x3, r0, r1, rz⟩ := boxes3 hb3
    have hM : w.heap.size + 1 + 1 < w2.heap.size := by have := hb3.size; simp at this; omega
    have hbb := ((alloc3 hb3).setCell (p := ⟨w.heap.size + 1 + 1, 0, none⟩) (by simp; omega) (.int .i64 0)).setCell (p := ⟨w.heap.size + 1 + 1, 1, none⟩) (by simp; omega) (.slice none 0 0)
    go_wp2_with fail
    exact bodyPost_ret (v := .tuple #[.agg #[.int .i64 0, .slice none 0 0], .bool false]) (by simp [results, Try.results21, go_sem, r0, r1]) rfl ⟨_, [], rfl, by rw [HT.out]; exact Ty.at_mk.2 ⟨_, rfl, .inl ⟨rfl, rfl, none, 0, rfl⟩⟩, Fresh.nil _ _, hbb⟩
  | true =>
    have HT := hid (show joinOf t u = join t u by simp [joinOf, hv, hv2])
    have HW1 := hid (wf_of_vld hv)
    have HW2 := hid (wf_of_vld hv2)
    have HV := hid hv
    have HV2 := hid hv2
    clear hv hv2
    go_enter Try.func21, Try.ntmps21
    go_wp2_with fail
    refine (implTypeValid_any t _ _ _ (h1.below hB)).mono ?_
    rintro e w1 ⟨he, hb1⟩
    rw [HV.out] at he
    subst he
    obtain ⟨x0, x1, x2, x3, r0, r1, rz⟩ := boxes3 hb1
    go_wp2_with fail
    refine (implTypeValid_any u _ _ _ ((h2.below hB).below hb1)).mono ?_
    rintro e w2 ⟨he, hb2⟩
    rw [HV2.out] at he
    subst he
    have hb3 := hb1.trans (hb2.mono hb1.size)
    replace x0 := cell_keep x0 hb2
    replace x1 := cell_keep x1 hb2
    replace x2 := cell_keep x2 hb2
    replace x3 := cell_keep x3 hb2
    clear r0 r1 rz
    go_wp2_with fail
    refine (walkT_any _ _ unknown_any callOk_unknown t u _ _ _ _ _ ((h1.below hB).below hb3) ((h2.below hB).below hb3) HW1.out HW2.out).mono ?_
    rw [wkT_join t u HW1.out HW2.out]
    rintro e wr ⟨v, f, rfl, hat, hf, hbr⟩
    clear x0 x1 x2 x3
    obtain ⟨kr, nr, ar, capr, rfl⟩ := hat.agg
    have hb4 := hb3.trans (hbr.mono hb3.size)
    obtain ⟨x0, x1, x2, x3, r0, r1, rz⟩ := boxes3 hb4
    have hM : w.heap.size + 1 + 1 < wr.heap.size := by have := hb4.size; simp at this; omega
    have hbb := ((alloc3 hb4).setCell (p := ⟨w.heap.size + 1 + 1, 0, none⟩) (by simp; omega) (.int .i64 kr)).setCell (p := ⟨w.heap.size + 1 + 1, 1, none⟩) (by simp; omega) (.slice ar nr capr)
    have hkr := keepR (R := w.heap.size + 1 + 1) (x := .int .i64 kr) (y := .slice ar nr capr) hat hf (by have := hb3.size; simp at this; omega)
    go_wp2_with fail
    exact bodyPost_ret (v := .tuple #[.agg #[.int .i64 kr, .slice ar nr capr], .bool true]) (by simp [results, Try.results21, go_sem, r0, r1]) rfl ⟨_, f, rfl, by rw [HT.out]; exact hkr.1, hkr.2.mono (by have := hb3.size; simp at this; omega), hbb⟩

end Go.Proofs.Ytelbpgdlcnnabaa

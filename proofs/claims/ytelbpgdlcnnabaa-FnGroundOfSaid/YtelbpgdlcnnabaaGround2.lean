/- GroundOf, of the specification and of the program. -/
import Derived.Test.YtelbpgdlcnnabaaGround
import Derived.Test.YtelbpgdlcnnabaaGk
namespace Go.Proofs.Ytelbpgdlcnnabaa
open Go.RowKit

set_option maxHeartbeats 1600000 in
set_option maxRecDepth 100000 in
theorem specGroundOf (t : Ty) (v : Value) (fp : List Nat) (w : World) (hat : t.At w v fp) (hn : t.cnt ≤ 1048576) : Calls Try.prog 25 #[v] w (MadeTB w (gndOf t) (gndOk t)) := by
  obtain ⟨k, ts, rfl⟩ := t.shape
  obtain ⟨s, rfl, hs⟩ := Ty.at_mk.1 hat
  obtain ⟨a, cap, rfl⟩ := hs.shape
  have hB := (((Below.refl w.heap.size w).alloc (Nat.le_refl _) (Obj.cells #[.int .i64 k, .slice a ts.length cap] 25)).alloc (by simp) (Obj.cells #[.int .i64 0, .slice none 0 0] 25))
  have HN := hid (show ts.length + cntL ts ≤ 1048576 by simpa only [Ty.cnt] using hn)
  have HN0 := hid hn
  clear hn
  cases hv : vld (.mk k ts) with
  | false =>
    have HT := hid (show gndOf (.mk k ts) = .mk 0 [] by simp [gndOf, gndOk, hv])
    have hok : gndOk (.mk k ts) = false := by simp [gndOk, hv]
    rw [hok]
    have HV := hid hv
    clear hv hok
    go_enter Try.func25, Try.ntmps25
    go_wp2_with fail
    refine (specTypeValid_any (.mk k ts) _ _ _ (hat.below hB)).mono ?_
    rintro e w1 ⟨he, hb3⟩
    rw [HV.out] at he
    subst he
    obtain ⟨x0, x1, r0, r1, rz⟩ := boxes2 hb3
    have hM : w.heap.size + 1 < w1.heap.size := by have := hb3.size; simp at this; omega
    have hbb := ((alloc2 hb3).setCell (p := ⟨w.heap.size + 1, 0, none⟩) (by simp) (.int .i64 0)).setCell (p := ⟨w.heap.size + 1, 1, none⟩) (by simp) (.slice none 0 0)
    go_wp2_with fail
    exact bodyPost_ret (v := .tuple #[.agg #[.int .i64 0, .slice none 0 0], .bool false]) (by simp [results, Try.results25, go_sem, r0, r1]) rfl ⟨_, [], rfl, by rw [HT.out]; exact Ty.at_mk.2 ⟨_, rfl, .inl ⟨rfl, rfl, none, 0, rfl⟩⟩, Fresh.nil _ _, hbb⟩
  | true =>
  by_cases hk : k = 1
  · have HT := hid (show gndOf (.mk k ts) = .mk 0 [] by simp [gndOf, gndOk, kindT, hk])
    have hok : gndOk (.mk k ts) = false := by simp [gndOk, kindT, hk]
    rw [hok]
    have HV := hid hv
    subst hk
    clear hv hok
    go_enter Try.func25, Try.ntmps25
    go_wp2_with fail
    refine (specTypeValid_any (.mk 1 ts) _ _ _ (hat.below hB)).mono ?_
    rintro e w1 ⟨he, hb3⟩
    rw [HV.out] at he
    subst he
    obtain ⟨x0, x1, r0, r1, rz⟩ := boxes2 hb3
    go_wp2_with fail
    have hM : w.heap.size + 1 < w1.heap.size := by have := hb3.size; simp at this; omega
    have hbb := ((alloc2 hb3).setCell (p := ⟨w.heap.size + 1, 0, none⟩) (by simp) (.int .i64 0)).setCell (p := ⟨w.heap.size + 1, 1, none⟩) (by simp) (.slice none 0 0)
    go_wp2_with fail
    exact bodyPost_ret (v := .tuple #[.agg #[.int .i64 0, .slice none 0 0], .bool false]) (by simp [results, Try.results25, go_sem, r0, r1]) rfl ⟨_, [], rfl, by rw [HT.out]; exact Ty.at_mk.2 ⟨_, rfl, .inl ⟨rfl, rfl, none, 0, rfl⟩⟩, Fresh.nil _ _, hbb⟩
  · have HT := hid (show gndOf (.mk k ts) = grd (.mk k ts) by simp [gndOf, gndOk, kindT, hk, hv])
    have hok : gndOk (.mk k ts) = true := by simp [gndOk, kindT, hk, hv]
    rw [hok]
    have hk1 : (k == 1) = false := by simpa using hk
    have HS := hid (wf_small2 (wf_of_vld hv))
    have HV := hid hv
    clear hv hok hk
    go_enter Try.func25, Try.ntmps25
    go_wp2_with fail
    refine (specTypeValid_any (.mk k ts) _ _ _ (hat.below hB)).mono ?_
    rintro e w1 ⟨he, hb3⟩
    rw [HV.out] at he
    subst he
    obtain ⟨x0, x1, r0, r1, rz⟩ := boxes2 hb3
    go_wp2_with fail
    refine (l1Ground_any (.mk k ts) _ _ _ ((hat.below hB).below hb3) HN0.out).mono ?_
    rintro e wr ⟨v, f, rfl, hatr, hf, hbr⟩
    obtain ⟨kr, nr, ar, capr, rfl⟩ := hatr.agg
    clear x0 x1 r0 r1 rz
    have hb4 := hb3.trans (hbr.mono hb3.size)
    obtain ⟨x0, x1, r0, r1, rz⟩ := boxes2 hb4
    have hM : w.heap.size + 1 < wr.heap.size := by have := hb4.size; simp at this; omega
    have hbb := ((alloc2 hb4).setCell (p := ⟨w.heap.size + 1, 0, none⟩) (by simp) (.int .i64 kr)).setCell (p := ⟨w.heap.size + 1, 1, none⟩) (by simp) (.slice ar nr capr)
    have hkr := keepR (R := w.heap.size + 1) (x := .int .i64 kr) (y := .slice ar nr capr) hatr hf (by have := hb3.size; simp at this; omega)
    go_wp2_with fail
    exact bodyPost_ret (v := .tuple #[.agg #[.int .i64 kr, .slice ar nr capr], .bool true]) (by simp [results, Try.results25, go_sem, r0, r1]) rfl ⟨_, f, rfl, by rw [HT.out]; exact hkr.1, hkr.2.mono (by have := hb3.size; simp at this; omega), hbb⟩

set_option maxHeartbeats 1600000 in
set_option maxRecDepth 100000 in
theorem implGroundOf (t : Ty) (v : Value) (fp : List Nat) (w : World) (hat : t.At w v fp) (hn : t.cnt ≤ 1048576) : Calls Try.prog 24 #[v] w (MadeTB w (gndOf t) (gndOk t)) := by
  obtain ⟨k, ts, rfl⟩ := t.shape
  obtain ⟨s, rfl, hs⟩ := Ty.at_mk.1 hat
  obtain ⟨a, cap, rfl⟩ := hs.shape
  have hB := (((Below.refl w.heap.size w).alloc (Nat.le_refl _) (Obj.cells #[.int .i64 k, .slice a ts.length cap] 25)).alloc (by simp) (Obj.cells #[.int .i64 0, .slice none 0 0] 25))
  have HN := hid (show ts.length + cntL ts ≤ 1048576 by simpa only [Ty.cnt] using hn)
  have HN0 := hid hn
  clear hn
  cases hv : vld (.mk k ts) with
  | false =>
    have HT := hid (show gndOf (.mk k ts) = .mk 0 [] by simp [gndOf, gndOk, hv])
    have hok : gndOk (.mk k ts) = false := by simp [gndOk, hv]
    rw [hok]
    have HV := hid hv
    clear hv hok
    go_enter Try.func24, Try.ntmps24
    go_wp2_with fail
    refine (implTypeValid_any (.mk k ts) _ _ _ (hat.below hB)).mono ?_
    rintro e w1 ⟨he, hb3⟩
    rw [HV.out] at he
    subst he
    obtain ⟨x0, x1, r0, r1, rz⟩ := boxes2 hb3
    have hM : w.heap.size + 1 < w1.heap.size := by have := hb3.size; simp at this; omega
    have hbb := ((alloc2 hb3).setCell (p := ⟨w.heap.size + 1, 0, none⟩) (by simp) (.int .i64 0)).setCell (p := ⟨w.heap.size + 1, 1, none⟩) (by simp) (.slice none 0 0)
    go_wp2_with fail
    exact bodyPost_ret (v := .tuple #[.agg #[.int .i64 0, .slice none 0 0], .bool false]) (by simp [results, Try.results24, go_sem, r0, r1]) rfl ⟨_, [], rfl, by rw [HT.out]; exact Ty.at_mk.2 ⟨_, rfl, .inl ⟨rfl, rfl, none, 0, rfl⟩⟩, Fresh.nil _ _, hbb⟩
  | true =>
  by_cases hk : k = 1
  · have HT := hid (show gndOf (.mk k ts) = .mk 0 [] by simp [gndOf, gndOk, kindT, hk])
    have hok : gndOk (.mk k ts) = false := by simp [gndOk, kindT, hk]
    rw [hok]
    have HV := hid hv
    subst hk
    clear hv hok
    go_enter Try.func24, Try.ntmps24
    go_wp2_with fail
    refine (implTypeValid_any (.mk 1 ts) _ _ _ (hat.below hB)).mono ?_
    rintro e w1 ⟨he, hb3⟩
    rw [HV.out] at he
    subst he
    obtain ⟨x0, x1, r0, r1, rz⟩ := boxes2 hb3
    go_wp2_with fail
    have hM : w.heap.size + 1 < w1.heap.size := by have := hb3.size; simp at this; omega
    have hbb := ((alloc2 hb3).setCell (p := ⟨w.heap.size + 1, 0, none⟩) (by simp) (.int .i64 0)).setCell (p := ⟨w.heap.size + 1, 1, none⟩) (by simp) (.slice none 0 0)
    go_wp2_with fail
    exact bodyPost_ret (v := .tuple #[.agg #[.int .i64 0, .slice none 0 0], .bool false]) (by simp [results, Try.results24, go_sem, r0, r1]) rfl ⟨_, [], rfl, by rw [HT.out]; exact Ty.at_mk.2 ⟨_, rfl, .inl ⟨rfl, rfl, none, 0, rfl⟩⟩, Fresh.nil _ _, hbb⟩
  · have HT := hid (show gndOf (.mk k ts) = grd (.mk k ts) by simp [gndOf, gndOk, kindT, hk, hv])
    have hok : gndOk (.mk k ts) = true := by simp [gndOk, kindT, hk, hv]
    rw [hok]
    have hk1 : (k == 1) = false := by simpa using hk
    have HS := hid (wf_small2 (wf_of_vld hv))
    have HV := hid hv
    clear hv hok hk
    have HGK := hid (grd_gk (wf_of_vld HV.out))
    have HKD := hid (wf_kind (wf_of_vld HV.out))
    go_enter Try.func24, Try.ntmps24
    go_wp2_with fail
    refine (implTypeValid_any (.mk k ts) _ _ _ (hat.below hB)).mono ?_
    rintro e w1 ⟨he, hb3⟩
    rw [HV.out] at he
    subst he
    obtain ⟨x0, x1, r0, r1, rz⟩ := boxes2 hb3
    go_wp2_with fail
    refine (groundOfKind_any k HKD.out _).mono ?_
    rintro e wr ⟨v, f, rfl, hatr, hf, hbr⟩
    rw [show gk k = grd (.mk k ts) from HGK.out.symm] at hatr
    obtain ⟨kr, nr, ar, capr, rfl⟩ := hatr.agg
    clear x0 x1 r0 r1 rz
    have hb4 := hb3.trans (hbr.mono hb3.size)
    obtain ⟨x0, x1, r0, r1, rz⟩ := boxes2 hb4
    have hM : w.heap.size + 1 < wr.heap.size := by have := hb4.size; simp at this; omega
    have hbb := ((alloc2 hb4).setCell (p := ⟨w.heap.size + 1, 0, none⟩) (by simp) (.int .i64 kr)).setCell (p := ⟨w.heap.size + 1, 1, none⟩) (by simp) (.slice ar nr capr)
    have hkr := keepR (R := w.heap.size + 1) (x := .int .i64 kr) (y := .slice ar nr capr) hatr hf (by have := hb3.size; simp at this; omega)
    go_wp2_with fail
    exact bodyPost_ret (v := .tuple #[.agg #[.int .i64 kr, .slice ar nr capr], .bool true]) (by simp [results, Try.results24, go_sem, r0, r1]) rfl ⟨_, f, rfl, by rw [HT.out]; exact hkr.1, hkr.2.mono (by have := hb3.size; simp at this; omega), hbb⟩

end Go.Proofs.Ytelbpgdlcnnabaa

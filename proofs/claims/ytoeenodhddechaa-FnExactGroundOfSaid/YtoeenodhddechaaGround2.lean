/- GroundOf, of the specification and of the program. -/
import Derived.Test.YtoeenodhddechaaGround
namespace Go.Proofs.Ytoeenodhddechaa
open Go.RowKit

/-- A new block of zero types of which the first j kinds have been set. -/
def Kinds (M n j : Nat) (wr : World) : Prop :=
  ∃ C : Array Value, wr.heap[M]? = some (.cells C 25 (0, 0)) ∧ C.size = n * 2 ∧ ∀ i, i < n → C[i * 2]? = some (.int .i64 (if i < j then 1 else 0)) ∧ C[i * 2 + 1]? = some (.slice none 0 0)

theorem made_pair (x y : Value) (n i : Nat) (h : i < n) : (madeCells #[x, y] (n * 2))[i * 2]? = some x ∧ (madeCells #[x, y] (n * 2))[i * 2 + 1]? = some y := by
  have h1 : i * 2 < n * 2 := by omega
  have h2 : i * 2 + 1 < n * 2 := by omega
  constructor
  · simp [madeCells, h1]
  · have : (i * 2 + 1) % 2 = 1 := by omega
    simp [madeCells, h2, this]

theorem Kinds.set {M n j : Nat} {w : World} (h : Kinds M n j w) (hj : j < n) : Kinds M n (j + 1) (w.setCell ⟨M, j * 2, none⟩ (.int .i64 1)) := by
  obtain ⟨C, hB, hC, hc⟩ := h
  refine ⟨_, heap_setCell_at hB _, by simp [hC], fun i hi => ⟨?_, ?_⟩⟩
  · by_cases hij : i = j
    · subst hij
      rw [if_pos (by omega)]
      simp [Array.getElem?_setIfInBounds, hC]
      omega
    · rw [Array.getElem?_setIfInBounds_ne (by omega), (hc i hi).1]
      by_cases h : i < j
      · rw [if_pos h, if_pos (by omega)]
      · rw [if_neg h, if_neg (by omega)]
  · rw [Array.getElem?_setIfInBounds_ne (by omega)]
    exact (hc i hi).2

theorem Kinds.done {M : Nat} {ts : List Ty} {w : World} (h : Kinds M ts.length ts.length w) (hp : 0 < ts.length) (hm : ts.length ≤ maxLen) : SlAt w (grdL ts) (.slice (some ⟨M, 0, none⟩) ts.length ts.length) [M] ∧ Fresh M w [M] := by
  obtain ⟨C, hB, hC, hc⟩ := h
  have hl : (grdL ts).length = ts.length := by simp [grdL]
  have hat : Ty.AtL w (grdL ts) M 0 (ts.map fun _ => ([] : List Nat)).flatten := idx_atL (by simp [grdL]) (fun i h h' => by
    have hi : i < ts.length := by rw [hl] at h; exact h
    refine ⟨1, .slice none 0 0, ?_, ?_, ?_, ?_⟩
    · rw [Nat.zero_add, cell_of_block hB, (hc i hi).1, if_pos hi]
    · rw [Nat.zero_add, cell_of_block hB, (hc i hi).2]
    · simp only [grdL, List.getElem_map, kidsT]
      exact .inl ⟨rfl, rfl, none, 0, rfl⟩
    · simp [grdL, kidsT])
  have hf : (ts.map fun _ => ([] : List Nat)).flatten = [] := by simp
  rw [hf] at hat
  exact ⟨.inr ⟨M, 0, _, [], by rw [hl], by rw [hl]; exact hp, by rw [hl]; exact Nat.le_refl _, by rw [hl]; exact hm, hat, rfl⟩, by simp, fun b hb => by
    obtain rfl : b = M := by simpa using hb
    exact ⟨Nat.le_refl _, lt_of_block hB, fun o => frozen_of_block hB⟩⟩

set_option maxHeartbeats 1600000 in
set_option maxRecDepth 100000 in
theorem specGroundOf (t : Ty) (v : Value) (fp : List Nat) (w : World) (hat : t.At w v fp) (hn : t.cnt ≤ 1048576) : Calls Try.prog 38 #[v] w (MadeTB w (gndOf t) (gndOk t)) := by
  obtain ⟨k, ts, rfl⟩ := t.shape
  obtain ⟨s, rfl, hs⟩ := Ty.at_mk.1 hat
  obtain ⟨a, cap, rfl⟩ := hs.shape
  have hB := (((Below.refl w.heap.size w).alloc (Nat.le_refl _) (Obj.cells #[.int .i64 k, .slice a ts.length cap] 25)).alloc (by simp) (Obj.cells #[.int .i64 0, .slice none 0 0] 25))
  have HN := hid (show ts.length + cntL ts ≤ 1048576 by simpa only [Ty.cnt] using hn)
  have HN0 := hid hn
  clear hn
  cases hv : vld (.mk k ts) with
  | false =>
    have HT := hid (show gndOf (.mk k ts) = .mk 0 [] by simp [gndOf, gndOk, hv])
    have hok : gndOk (.mk k ts) = false := by simp [gndOk, hv]
    rw [hok]
    have HV := hid hv
    clear hv hok
    go_enter Try.func38, Try.ntmps38
    go_wp2_with fail
    refine (specTypeValid_any (.mk k ts) _ _ _ (hat.below hB)).mono ?_
    rintro e w1 ⟨he, hb3⟩
    rw [HV.out] at he
    subst he
    obtain ⟨x0, x1, r0, r1, rz⟩ := boxes2 hb3
    have hM : w.heap.size + 1 < w1.heap.size := by have := hb3.size; simp at this; omega
    have hbb := ((alloc2 hb3).setCell (p := ⟨w.heap.size + 1, 0, none⟩) (by simp) (.int .i64 0)).setCell (p := ⟨w.heap.size + 1, 1, none⟩) (by simp) (.slice none 0 0)
    go_wp2_with fail
    exact bodyPost_ret (v := .tuple #[.agg #[.int .i64 0, .slice none 0 0], .bool false]) (by simp [results, Try.results38, go_sem, r0, r1]) rfl ⟨_, [], rfl, by rw [HT.out]; exact Ty.at_mk.2 ⟨_, rfl, .inl ⟨rfl, rfl, none, 0, rfl⟩⟩, Fresh.nil _ _, hbb⟩
  | true =>
  by_cases hk : k = 1
  · have HT := hid (show gndOf (.mk k ts) = .mk 0 [] by simp [gndOf, gndOk, kindT, hk])
    have hok : gndOk (.mk k ts) = false := by simp [gndOk, kindT, hk]
    rw [hok]
    have HV := hid hv
    subst hk
    clear hv hok
    go_enter Try.func38, Try.ntmps38
    go_wp2_with fail
    refine (specTypeValid_any (.mk 1 ts) _ _ _ (hat.below hB)).mono ?_
    rintro e w1 ⟨he, hb3⟩
    rw [HV.out] at he
    subst he
    obtain ⟨x0, x1, r0, r1, rz⟩ := boxes2 hb3
    go_wp2_with fail
    have hM : w.heap.size + 1 < w1.heap.size := by have := hb3.size; simp at this; omega
    have hbb := ((alloc2 hb3).setCell (p := ⟨w.heap.size + 1, 0, none⟩) (by simp) (.int .i64 0)).setCell (p := ⟨w.heap.size + 1, 1, none⟩) (by simp) (.slice none 0 0)
    go_wp2_with fail
    exact bodyPost_ret (v := .tuple #[.agg #[.int .i64 0, .slice none 0 0], .bool false]) (by simp [results, Try.results38, go_sem, r0, r1]) rfl ⟨_, [], rfl, by rw [HT.out]; exact Ty.at_mk.2 ⟨_, rfl, .inl ⟨rfl, rfl, none, 0, rfl⟩⟩, Fresh.nil _ _, hbb⟩
  · have HT := hid (show gndOf (.mk k ts) = grd (.mk k ts) by simp [gndOf, gndOk, kindT, hk, hv])
    have hok : gndOk (.mk k ts) = true := by simp [gndOk, kindT, hk, hv]
    rw [hok]
    have hk1 : (k == 1) = false := by simpa using hk
    have HS := hid (wf_small2 (wf_of_vld hv))
    have HV := hid hv
    clear hv hok hk
    go_enter Try.func38, Try.ntmps38
    go_wp2_with fail
    refine (specTypeValid_any (.mk k ts) _ _ _ (hat.below hB)).mono ?_
    rintro e w1 ⟨he, hb3⟩
    rw [HV.out] at he
    subst he
    obtain ⟨x0, x1, r0, r1, rz⟩ := boxes2 hb3
    go_wp2_with fail
    refine (l1Ground_any (.mk k ts) _ _ _ ((hat.below hB).below hb3) HN0.out).mono ?_
    rintro e wr ⟨v, f, rfl, hatr, hf, hbr⟩
    obtain ⟨kr, nr, ar, capr, rfl⟩ := hatr.agg
    clear x0 x1 r0 r1 rz
    have hb4 := hb3.trans (hbr.mono hb3.size)
    obtain ⟨x0, x1, r0, r1, rz⟩ := boxes2 hb4
    have hM : w.heap.size + 1 < wr.heap.size := by have := hb4.size; simp at this; omega
    have hbb := ((alloc2 hb4).setCell (p := ⟨w.heap.size + 1, 0, none⟩) (by simp) (.int .i64 kr)).setCell (p := ⟨w.heap.size + 1, 1, none⟩) (by simp) (.slice ar nr capr)
    have hkr := keepR (R := w.heap.size + 1) (x := .int .i64 kr) (y := .slice ar nr capr) hatr hf (by have := hb3.size; simp at this; omega)
    go_wp2_with fail
    exact bodyPost_ret (v := .tuple #[.agg #[.int .i64 kr, .slice ar nr capr], .bool true]) (by simp [results, Try.results38, go_sem, r0, r1]) rfl ⟨_, f, rfl, by rw [HT.out]; exact hkr.1, hkr.2.mono (by have := hb3.size; simp at this; omega), hbb⟩

set_option maxHeartbeats 1600000 in
set_option maxRecDepth 100000 in
theorem implGroundOf (t : Ty) (v : Value) (fp : List Nat) (w : World) (hat : t.At w v fp) (hn : t.cnt ≤ 1048576) : Calls Try.prog 39 #[v] w (MadeTB w (gndOf t) (gndOk t)) := by
  obtain ⟨k, ts, rfl⟩ := t.shape
  obtain ⟨s, rfl, hs⟩ := Ty.at_mk.1 hat
  obtain ⟨a, cap, rfl⟩ := hs.shape
  have hB := (((Below.refl w.heap.size w).alloc (Nat.le_refl _) (Obj.cells #[.int .i64 k, .slice a ts.length cap] 25)).alloc (by simp) (Obj.cells #[.int .i64 0, .slice none 0 0] 25))
  have HN := hid (show ts.length + cntL ts ≤ 1048576 by simpa only [Ty.cnt] using hn)
  have HN0 := hid hn
  clear hn
  cases hv : vld (.mk k ts) with
  | false =>
    have HT := hid (show gndOf (.mk k ts) = .mk 0 [] by simp [gndOf, gndOk, hv])
    have hok : gndOk (.mk k ts) = false := by simp [gndOk, hv]
    rw [hok]
    have HV := hid hv
    clear hv hok
    go_enter Try.func39, Try.ntmps39
    go_wp2_with fail
    refine (implTypeValid_any (.mk k ts) _ _ _ (hat.below hB)).mono ?_
    rintro e w1 ⟨he, hb3⟩
    rw [HV.out] at he
    subst he
    obtain ⟨x0, x1, r0, r1, rz⟩ := boxes2 hb3
    have hM : w.heap.size + 1 < w1.heap.size := by have := hb3.size; simp at this; omega
    have hbb := ((alloc2 hb3).setCell (p := ⟨w.heap.size + 1, 0, none⟩) (by simp) (.int .i64 0)).setCell (p := ⟨w.heap.size + 1, 1, none⟩) (by simp) (.slice none 0 0)
    go_wp2_with fail
    exact bodyPost_ret (v := .tuple #[.agg #[.int .i64 0, .slice none 0 0], .bool false]) (by simp [results, Try.results39, go_sem, r0, r1]) rfl ⟨_, [], rfl, by rw [HT.out]; exact Ty.at_mk.2 ⟨_, rfl, .inl ⟨rfl, rfl, none, 0, rfl⟩⟩, Fresh.nil _ _, hbb⟩
  | true =>
  by_cases hk : k = 1
  · have HT := hid (show gndOf (.mk k ts) = .mk 0 [] by simp [gndOf, gndOk, kindT, hk])
    have hok : gndOk (.mk k ts) = false := by simp [gndOk, kindT, hk]
    rw [hok]
    have HV := hid hv
    subst hk
    clear hv hok
    go_enter Try.func39, Try.ntmps39
    go_wp2_with fail
    refine (implTypeValid_any (.mk 1 ts) _ _ _ (hat.below hB)).mono ?_
    rintro e w1 ⟨he, hb3⟩
    rw [HV.out] at he
    subst he
    obtain ⟨x0, x1, r0, r1, rz⟩ := boxes2 hb3
    go_wp2_with fail
    have hM : w.heap.size + 1 < w1.heap.size := by have := hb3.size; simp at this; omega
    have hbb := ((alloc2 hb3).setCell (p := ⟨w.heap.size + 1, 0, none⟩) (by simp) (.int .i64 0)).setCell (p := ⟨w.heap.size + 1, 1, none⟩) (by simp) (.slice none 0 0)
    go_wp2_with fail
    exact bodyPost_ret (v := .tuple #[.agg #[.int .i64 0, .slice none 0 0], .bool false]) (by simp [results, Try.results39, go_sem, r0, r1]) rfl ⟨_, [], rfl, by rw [HT.out]; exact Ty.at_mk.2 ⟨_, rfl, .inl ⟨rfl, rfl, none, 0, rfl⟩⟩, Fresh.nil _ _, hbb⟩
  · have HT := hid (show gndOf (.mk k ts) = grd (.mk k ts) by simp [gndOf, gndOk, kindT, hk, hv])
    have hok : gndOk (.mk k ts) = true := by simp [gndOk, kindT, hk, hv]
    rw [hok]
    have hk1 : (k == 1) = false := by simpa using hk
    have HS := hid (wf_small2 (wf_of_vld hv))
    have HV := hid hv
    clear hv hok hk
    by_cases h0 : ts.length = 0
    · have ht : ts = [] := List.length_eq_zero_iff.1 h0
      subst ht
      go_enter Try.func39, Try.ntmps39
      go_wp2_with fail
      refine (implTypeValid_any (.mk k []) _ _ _ (hat.below hB)).mono ?_
      rintro e w1 ⟨he, hb3⟩
      rw [HV.out] at he
      subst he
      obtain ⟨x0, x1, r0, r1, rz⟩ := boxes2 hb3
      go_wp2_with fail
      go_loop [25] (fun i => i = .int .i64 0) (fun _ => 0)
      case atStart => rfl
      case round =>
        obtain rfl := hrel
        have hM : w.heap.size + 1 < w1.heap.size := by have := hb3.size; simp at this; omega
        have hbb := ((alloc2 hb3).setCell (p := ⟨w.heap.size + 1, 0, none⟩) (by simp) (.int .i64 k)).setCell (p := ⟨w.heap.size + 1, 1, none⟩) (by simp) (.slice none 0 0)
        go_wp2_with fail
        exact bodyPost_ret (v := .tuple #[.agg #[.int .i64 k, .slice none 0 0], .bool true]) (by simp [results, Try.results39, go_sem, r0, r1]) rfl ⟨_, [], rfl, by rw [HT.out]; exact Ty.at_mk.2 ⟨_, rfl, .inl ⟨rfl, rfl, none, 0, rfl⟩⟩, Fresh.nil _ _, hbb⟩
    · have hpos : 0 < ts.length := by omega
      have hpos' : (0 : Int) < (ts.length : Int) := by omega
      have hsm : ts.length ≤ 1048576 := Nat.le_trans HS.out (by omega)
      clear h0
      obtain ⟨Z, hZ, hmk⟩ : ∃ Z : Array Value, (Z.size = ts.length * 2 ∧ ∀ i, i < ts.length → Z[i * 2]? = some (.int .i64 0) ∧ Z[i * 2 + 1]? = some (.slice none 0 0)) ∧ ∀ w : World, (Instr.makeSlice 23 (.int .i64 (ts.length : Int)) (.int .i64 (ts.length : Int))).run Try.prog w = .ok (.slice (some ⟨w.heap.size, 0, none⟩) ts.length ts.length) (w.alloc (.cells Z 25)) := by
        obtain ⟨i0, hi, hz0, hz1, hz2⟩ := info_parts (P := Try.prog) (e := 25) Try.infoTy2
        have r := fun w : World => run_make w _ _ i0 _ Try.underTys2 hi hz0 .i64 .i64 (ts.length : Int) (ts.length : Int) (by omega) (by omega) (by rw [hz2]; omega) (by omega)
        simp only [Int.toNat_natCast, hz1] at r
        exact ⟨_, ⟨size_madeCells _ _, fun i hi => made_pair _ _ _ _ hi⟩, r⟩
      have HZ := hid hZ
      clear hZ
      go_enter Try.func39, Try.ntmps39
      go_wp2_with fail
      refine (implTypeValid_any (.mk k ts) _ _ _ (hat.below hB)).mono ?_
      rintro e w1 ⟨he, hb3⟩
      rw [HV.out] at he
      subst he
      obtain ⟨x0, x1, r0, r1, rz⟩ := boxes2 hb3
      go_wp2_with fail
      go_loopw [25] (fun i wr => ∃ j : Nat, j ≤ ts.length ∧ i = .int .i64 j ∧ Kinds w1.heap.size ts.length j wr ∧ Below w1.heap.size w1 wr) (fun i _ => ts.length - (intOf i).toNat)
      case atStart => exact ⟨0, Nat.zero_le _, rfl, ⟨Z, alloc_new _ _, HZ.out.1, fun i hi => by simpa using HZ.out.2 i hi⟩, (Below.refl _ _).alloc (Nat.le_refl _) _⟩
      case round =>
        obtain ⟨j, hj, rfl, hK, hb⟩ := hrel
        by_cases hlk : j < ts.length
        · obtain ⟨C, hCB, hCs, hCc⟩ := hK
          have q0 : wr.cell? ⟨w1.heap.size, j * 2, none⟩ = some (.int .i64 0) := by rw [cell_of_block hCB, (hCc j hlk).1, if_neg (by omega)]
          have qz := frozen_of_block (o := j * 2) hCB
          have hK1 := Kinds.set (w := wr) ⟨C, hCB, hCs, hCc⟩ hlk
          have HCC := hid hCc
          clear hCc
          go_wp2_with fail
          exact ⟨⟨j + 1, by omega, by go_num, hK1, hb.setCell (p := ⟨w1.heap.size, j * 2, none⟩) (Nat.le_refl _) _⟩, by simp [intOf]; omega⟩
        · obtain rfl : j = ts.length := by omega
          obtain ⟨hs', hf'⟩ := hK.done hpos (by unfold maxLen; omega)
          have hb4 := hb3.trans (hb.mono hb3.size)
          clear x0 x1 r0 r1 rz
          obtain ⟨x0, x1, r0, r1, rz⟩ := boxes2 hb4
          have hM : w.heap.size + 1 < wr.heap.size := by have := hb4.size; simp at this; omega
          have hM1 : w.heap.size + 1 < w1.heap.size := by have := hb3.size; simp at this; omega
          have hbb := ((alloc2 hb4).setCell (p := ⟨w.heap.size + 1, 0, none⟩) (by simp) (.int .i64 k)).setCell (p := ⟨w.heap.size + 1, 1, none⟩) (by simp) (.slice (some ⟨w1.heap.size, 0, none⟩) ts.length ts.length)
          have hat1 : Ty.At wr (grd (.mk k ts)) (.agg #[.int .i64 k, .slice (some ⟨w1.heap.size, 0, none⟩) ts.length ts.length]) [w1.heap.size] := Ty.at_mk.2 ⟨_, rfl, hs'⟩
          have hkr := keepR (R := w.heap.size + 1) (x := .int .i64 k) (y := .slice (some ⟨w1.heap.size, 0, none⟩) ts.length ts.length) hat1 hf' hM1
          clear hK hs'
          go_wp2_with fail
          exact bodyPost_ret (v := .tuple #[.agg #[.int .i64 k, .slice (some ⟨w1.heap.size, 0, none⟩) ts.length ts.length], .bool true]) (by simp [results, Try.results39, go_sem, r0, r1]) rfl ⟨_, _, rfl, by rw [HT.out]; exact hkr.1, hkr.2.mono (by omega), hbb⟩

end Go.Proofs.Ytoeenodhddechaa

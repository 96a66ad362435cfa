/- The specification's l6Labels and CoercionLabels. -/
import Derived.Test.YtgiimijooabioaaLcS
namespace Go.Proofs.Ytgiimijooabioaa
open Go.RowKit

def LcC (t : Co) : Prop := ∀ (B : Nat) (ds : List Int) (v : Value) (tv : Value) (fp : List Nat) (w : World), GrowI B ds v w → t.At w tv fp → B ≤ w.heap.size → t.cnt ≤ 1048576 → ds.length + 2 * (t.cnt + 1) ≤ 4194300 →
  Calls Try.prog 35 #[v, tv] w fun e w' => ∃ v', e = .returned v' ∧ GrowI B (ccN scStep ds t) v' w' ∧ Below w.heap.size w w'

set_option linter.unusedSimpArgs false in
set_option maxRecDepth 100000 in
set_option maxHeartbeats 4000000 in
theorem l6Labels_of (k g l : Int) (ts : List Co) (ih : ∀ t ∈ ts, LcC t) : LcC (.mk k g l ts) := by
  intro B ds v tv fp w hG hat hBw hsz hln
  have HIH := hid ih
  clear ih
  obtain ⟨s, rfl, hs⟩ := Co.at_mk.1 hat
  obtain ⟨a, cap, hss, hc, hm, hget⟩ := hs.open
  subst hss
  have HG := hid hget
  obtain ⟨av, capv, rfl⟩ := hG.shape
  have hb0 : Below w.heap.size w (w.alloc (Obj.cells #[.int .i64 k, .int .i64 g, .int .i64 l, .slice a ts.length cap] 40)) := (Below.refl _ _).alloc (Nat.le_refl _) _
  have HSZ := hid (show ts.length + ccntL ts ≤ 1048576 by simp only [Co.cnt] at hsz; omega)
  have HEC := hid (show ccN scStep ds (.mk k g l ts) = ccL scStep (if l = 0 then ds else srtI ds l) ts by rw [ccN]; rfl)
  have HLN := hid (show (if l = 0 then ds else srtI ds l).length + 2 * (ts.length + ccntL ts) ≤ 4194300 by
    have := srtI_len ds l
    simp only [Co.cnt] at hln
    split <;> omega)
  have hdl : ds.length ≤ 4194300 := by omega
  obtain ⟨z0, z1, z2, z3⟩ := box4 (Below.refl ((w.alloc (Obj.cells #[.int .i64 k, .int .i64 g, .int .i64 l, .slice a ts.length cap] 40))).heap.size (w.alloc (Obj.cells #[.int .i64 k, .int .i64 g, .int .i64 l, .slice a ts.length cap] 40)))
  clear hget hat hsz hln hs
  by_cases hk : l = 0
  case neg =>
    rw [if_neg hk] at HEC HLN
    have hk1 : (l == 0) = false := by simpa using hk
    have hk2 : (l != 0) = true := by simpa using hk
    have HS := hid (l4Sorted_any B ds _ l _ (hG.below hb0) (Nat.le_trans hBw hb0.size) hdl)
    generalize srtI ds l = D at *
    go_enter Try.func35, Try.ntmps35
    go_wp2_with fail
    refine HS.out.mono ?_
    rintro e w1 ⟨v1, rfl, hG1, hb1⟩
    have HG3 := hid hG1
    have HB3 := hid hb1
    obtain ⟨a1', c1', rfl⟩ := hG1.shape
    clear hG1 hb1 z0 z1 z2 z3
    obtain ⟨z0, z1, z2, z3⟩ := box4 HB3.out
    go_wp2_with fail
    go_loopw [0, 5] (fun out i wr => ∃ (j : Nat) (v' : Value), j ≤ ts.length ∧ i = .int .i64 j ∧ out = v' ∧ GrowI B (ccL scStep D (ts.take j)) v' wr ∧ Below ((w.alloc (Obj.cells #[.int .i64 k, .int .i64 g, .int .i64 l, .slice a ts.length cap] 40))).heap.size (w.alloc (Obj.cells #[.int .i64 k, .int .i64 g, .int .i64 l, .slice a ts.length cap] 40)) wr) (fun _ i _ => ts.length - (intOf i).toNat)
    case atStart => exact ⟨0, _, Nat.zero_le _, rfl, rfl, by simpa [ccL] using HG3.out, HB3.out⟩
    case round =>
      obtain ⟨j, v', hj, rfl, hout, hG4, hbr⟩ := hrel
      obtain ⟨z0, z1, z2, z3⟩ := box4 hbr
      obtain ⟨av', nv', capv', hshape⟩ : ∃ a n c, v' = .slice a n c := by obtain ⟨a, c, h⟩ := hG4.shape; exact ⟨a, _, c, h⟩
      subst hshape
      subst hout
      have HG4 := hid hG4
      have HBR := hid hbr
      have hBr : B ≤ wr.heap.size := Nat.le_trans (Nat.le_trans hBw hb0.size) hbr.size
      clear hG4 hbr
      by_cases hlk : j < ts.length
      · obtain ⟨b, o, q0, q1, q2, q3, q4, q5, g1, hab, hblt, e0, e1, e2, e3, hat, hf⟩ := HG.out j hlk
        subst hab
        have hbb := below_trans hb0 HBR.out
        have HAT := hid (hat.below hbb)
        replace e0 := cell_keep e0 hbb
        replace e1 := cell_keep e1 hbb
        replace e2 := cell_keep e2 hbb
        replace e3 := cell_keep e3 hbb
        have HTK := hid (ccL_take scStep ts D j hlk)
        have hl2 : (ccL scStep D (ts.take j)).length + 2 * (ts[j].cnt + 1) ≤ 4194300 := Nat.le_trans (ccL_take_len scStep List.length scStep_len ts D j hlk) HLN.out
        have hszj : ts[j].cnt ≤ 1048576 := by have := HSZ.out; have := ccnt_mem (List.getElem_mem hlk); omega
        have HL2 := hid hl2
        clear hat hf hl2 hbb
        go_wp2_with fail
        refine (HIH.out _ (List.getElem_mem hlk) B _ _ _ _ _ HG4.out HAT.out hBr hszj HL2.out).mono ?_
        rintro e w4 ⟨v5, rfl, hG5, hb5⟩
        have HG5 := hid hG5
        have HB5 := hid (below_trans HBR.out hb5)
        clear hG5 hb5 e0 e1 e2 e3 z0 z1 z2 z3
        go_wp2_with fail
        go_roundw
        case rel => exact ⟨j + 1, _, by omega, by go_num, rfl, by rw [HTK.out]; exact HG5.out, HB5.out⟩
        case measure => simp [intOf]; omega
      · have hz : ts.take j = ts := List.take_of_length_le (by omega)
        have HZ := hid hz
        clear hz
        go_wp2_with fail
        go_ret
        refine ⟨_, rfl, ?_, below_trans hb0 HBR.out⟩
        have := HG4.out
        rw [HZ.out] at this
        rw [HEC.out]
        exact this
  case pos =>
    rw [if_pos hk] at HEC HLN
    subst hk
    have HG3 := hid (hG.below hb0)
    have HB3 := hid (Below.refl ((w.alloc (Obj.cells #[.int .i64 k, .int .i64 g, .int .i64 0, .slice a ts.length cap] 40))).heap.size (w.alloc (Obj.cells #[.int .i64 k, .int .i64 g, .int .i64 0, .slice a ts.length cap] 40)))
    go_enter Try.func35, Try.ntmps35
    go_wp2_with fail
    go_loopw [0, 5] (fun out i wr => ∃ (j : Nat) (v' : Value), j ≤ ts.length ∧ i = .int .i64 j ∧ out = v' ∧ GrowI B (ccL scStep ds (ts.take j)) v' wr ∧ Below ((w.alloc (Obj.cells #[.int .i64 k, .int .i64 g, .int .i64 0, .slice a ts.length cap] 40))).heap.size (w.alloc (Obj.cells #[.int .i64 k, .int .i64 g, .int .i64 0, .slice a ts.length cap] 40)) wr) (fun _ i _ => ts.length - (intOf i).toNat)
    case atStart => exact ⟨0, _, Nat.zero_le _, rfl, rfl, by simpa [ccL] using HG3.out, HB3.out⟩
    case round =>
      obtain ⟨j, v', hj, rfl, hout, hG4, hbr⟩ := hrel
      obtain ⟨z0, z1, z2, z3⟩ := box4 hbr
      obtain ⟨av', nv', capv', hshape⟩ : ∃ a n c, v' = .slice a n c := by obtain ⟨a, c, h⟩ := hG4.shape; exact ⟨a, _, c, h⟩
      subst hshape
      subst hout
      have HG4 := hid hG4
      have HBR := hid hbr
      have hBr : B ≤ wr.heap.size := Nat.le_trans (Nat.le_trans hBw hb0.size) hbr.size
      clear hG4 hbr
      by_cases hlk : j < ts.length
      · obtain ⟨b, o, q0, q1, q2, q3, q4, q5, g1, hab, hblt, e0, e1, e2, e3, hat, hf⟩ := HG.out j hlk
        subst hab
        have hbb := below_trans hb0 HBR.out
        have HAT := hid (hat.below hbb)
        replace e0 := cell_keep e0 hbb
        replace e1 := cell_keep e1 hbb
        replace e2 := cell_keep e2 hbb
        replace e3 := cell_keep e3 hbb
        have HTK := hid (ccL_take scStep ts ds j hlk)
        have hl2 : (ccL scStep ds (ts.take j)).length + 2 * (ts[j].cnt + 1) ≤ 4194300 := Nat.le_trans (ccL_take_len scStep List.length scStep_len ts ds j hlk) HLN.out
        have hszj : ts[j].cnt ≤ 1048576 := by have := HSZ.out; have := ccnt_mem (List.getElem_mem hlk); omega
        have HL2 := hid hl2
        clear hat hf hl2 hbb
        go_wp2_with fail
        refine (HIH.out _ (List.getElem_mem hlk) B _ _ _ _ _ HG4.out HAT.out hBr hszj HL2.out).mono ?_
        rintro e w4 ⟨v5, rfl, hG5, hb5⟩
        have HG5 := hid hG5
        have HB5 := hid (below_trans HBR.out hb5)
        clear hG5 hb5 e0 e1 e2 e3 z0 z1 z2 z3
        go_wp2_with fail
        go_roundw
        case rel => exact ⟨j + 1, _, by omega, by go_num, rfl, by rw [HTK.out]; exact HG5.out, HB5.out⟩
        case measure => simp [intOf]; omega
      · have hz : ts.take j = ts := List.take_of_length_le (by omega)
        have HZ := hid hz
        clear hz
        go_wp2_with fail
        go_ret
        refine ⟨_, rfl, ?_, below_trans hb0 HBR.out⟩
        have := HG4.out
        rw [HZ.out] at this
        rw [HEC.out]
        exact this

theorem l6Labels_any : ∀ t : Co, LcC t := Co.ind l6Labels_of

set_option maxRecDepth 100000 in
set_option maxHeartbeats 2000000 in
theorem specCoercionLabels (t : Co) (v : Value) (fp : List Nat) (w : World) (hsz : t.cnt ≤ 1048576) (hat : t.At w v fp) :
    Calls Try.prog 17 #[v] w (MadeI w (lcLst t)) := by
  have hat0 := hat
  obtain ⟨k, g, l, n, a, cap, rfl⟩ := hat.agg
  have hb0 : Below w.heap.size w (w.alloc (Obj.cells #[.int .i64 k, .int .i64 g, .int .i64 l, .slice a n cap] 40)) := (Below.refl _ _).alloc (Nat.le_refl _) _
  have HV := hid (specCoercionValid_any t _ _ _ (hat0.below hb0))
  have HT := hid (show lcLst t = if vldK t then ccN scStep [] t else [] from rfl)
  generalize lcLst t = L at *
  generalize vldK t = r at *
  go_enter Try.func17, Try.ntmps17
  go_wp2_with fail
  refine HV.out.mono ?_
  rintro e w1 ⟨rfl, hb1⟩
  obtain ⟨z0, z1, z2, z3⟩ := box4 hb1
  have b1 := below_trans hb0 hb1
  have hat2 := hat.below b1
  have hal : Below w1.heap.size w1 (w1.alloc (Obj.cells #[] 3)) := (Below.refl _ _).alloc (Nat.le_refl _) _
  have HG0 := hid (GrowI.new (B := w1.heap.size) (w := w1) (Nat.le_refl _))
  cases r
  · have HFIN := hid (show MadeI w L (.returned (.slice (some ⟨w1.heap.size, 0, none⟩) 0 0)) (w1.alloc (Obj.cells #[] 3)) from ⟨_, rfl, by rw [HT.out]; exact HG0.out.mono b1.size, below_trans b1 hal⟩)
    go_wp2_with fail
    go_ret
    exact HFIN.out
  · replace z0 := cell_keep z0 hal
    replace z1 := cell_keep z1 hal
    replace z2 := cell_keep z2 hal
    replace z3 := cell_keep z3 hal
    have b2 := below_trans b1 hal
    have HAT := hid (hat2.below hal)
    have hsz2 : ([] : List Int).length + 2 * (t.cnt + 1) ≤ 4194300 := by simp only [List.length_nil]; omega
    have HS2 := hid hsz2
    clear hat2 hsz2
    go_wp2_with fail
    refine (l6Labels_any t w1.heap.size [] _ _ fp _ HG0.out HAT.out hal.size hsz HS2.out).mono ?_
    rintro e w3 ⟨v', rfl, hG, hb3⟩
    have HFIN := hid (show MadeI w L (.returned v') w3 from ⟨v', rfl, by rw [HT.out, if_pos trivial]; exact hG.mono b1.size, below_trans b2 hb3⟩)
    clear hG hb3
    go_wp2_with fail
    go_ret
    exact HFIN.out
end Go.Proofs.Ytgiimijooabioaa

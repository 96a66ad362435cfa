/- The program's nodesWithin, CountNodes and TermValid. -/
import Derived.Test.YtgmpndpehhbmgaaDoorNdV5
namespace Go.Proofs.YtgmpndpehhbmgaaDoor
open Go.RowKit

/-- The nodes of a term that is well formed and has at most so many; else 0. -/
def cw (nodes : Int) (d : Nat) (t : Tm) : Int := if shpM d t = true ∧ cntD d t ≤ nodes then cntD d t else 0

def NwC (d : Nat) : Prop := ∀ (t : Tm) (v : Value) (fp : List Nat) (m n : Int) (w : World), m ≤ 100 → -100 ≤ m → n ≤ 100 → n.toNat = d → Forms w → t.At w v fp →
  Calls Tryd.prog 136 #[v, .int .i64 m, .int .i64 n] w fun e w' => e = .returned (.int .i64 (cw m d t)) ∧ Below w.heap.size w w'

theorem shpM_node (d : Nat) (k : Int) (nm : ByteArray) (num : Int) (ty fr : Ty) (lb : Int) (ts : List Tm) : shpM (d + 1) (.mk k nm num ty fr lb ts) = (nodeB k nm num ty fr lb ts.length && ts.all (shpM d)) := by
  simp only [shpM, nodeB, Bool.and_assoc]

theorem cw_lo {m : Int} (hm : m < 1) (d : Nat) (t : Tm) : cw m d t = 0 := by
  have := cntD_pos d t
  rw [cw, if_neg (by omega)]

set_option maxHeartbeats 1000000 in
theorem nodesWithin_zero : NwC 0 := by
  intro t v fp m n w hm1 hm2 hn1 hn hF hat
  obtain ⟨k, nm, num, ty, fr, lb, ts, rfl⟩ := t.shape
  have HR := hid (show cw m 0 (.mk k nm num ty fr lb ts) = 0 by simp [cw, shpM])
  obtain ⟨k1, n1, a1, c1, k2, n2, a2, c2, a3, c3, f1, f2, f3, rfl, hnm, ht1, ht2, rfl, hs⟩ := hat.parts
  have hb0 : Below w.heap.size w (w.alloc (Obj.cells #[.int .i64 k, .string nm, .int .i64 num, .int .i64 k1, .slice a1 n1 c1, .int .i64 k2, .slice a2 n2 c2, .int .i64 lb, .slice a3 ts.length c3] 40)) := (Below.refl _ _).alloc (Nat.le_refl _) _
  have hn2 : n < 1 := by omega
  clear hat hn
  by_cases hm : m < 1
  · go_enter Tryd.func136, Tryd.ntmps136
    go_wp2_with fail
    go_ret
    exact ⟨ret_i HR.out.symm, hb0⟩
  · go_enter Tryd.func136, Tryd.ntmps136
    go_wp2_with fail
    go_ret
    exact ⟨ret_i HR.out.symm, hb0⟩

theorem all_take {d : Nat} {ts : List Tm} {j : Nat} (h : j < ts.length) : (ts.take (j + 1)).all (shpM d) = ((ts.take j).all (shpM d) && shpM d ts[j]) := by
  rw [take_succM h, List.all_append]
  simp

theorem cw_stop {d : Nat} {ts : List Tm} {j : Nat} {m c : Int} (k : Int) (nm : ByteArray) (num : Int) (ty fr : Ty) (lb : Int) (hlk : j < ts.length) (hc : c = 1 + sumL (cntD d) (ts.take j)) (h0 : cw (m - c) d ts[j] = 0) : cw m (d + 1) (.mk k nm num ty fr lb ts) = 0 := by
  have hp := cntD_pos d ts[j]
  unfold cw at h0
  have hno : ¬ (shpM d ts[j] = true ∧ cntD d ts[j] ≤ m - c) := by
    intro hy
    rw [if_pos hy] at h0
    omega
  unfold cw
  rw [if_neg]
  rintro ⟨hs, hcn⟩
  apply hno
  constructor
  · rw [shpM_node, Bool.and_eq_true, List.all_eq_true] at hs
    exact hs.2 _ (List.getElem_mem hlk)
  · simp only [cntD] at hcn
    have h1 := sumL_take (f := cntD d) hlk
    have h2 := sumL_take_le (d := d) (ts := ts) (j + 1)
    omega

theorem cw_some {m r : Int} {d : Nat} {t : Tm} (h : cw m d t = r) (h0 : r ≠ 0) : shpM d t = true ∧ cntD d t = r := by
  unfold cw at h
  split at h
  · rename_i hc
    exact ⟨hc.1, h⟩
  · exact absurd h.symm h0

set_option maxHeartbeats 4000000 in
theorem nodesWithin_succ (d : Nat) (ih : NwC d) : NwC (d + 1) := by
  intro t v fp m n w hm1 hm2 hn1 hn hF hat
  have HIH := hid ih
  clear ih
  obtain ⟨k, nm, num, ty, fr, lb, ts, rfl⟩ := t.shape
  have hat0 := hat
  obtain ⟨k1, n1, a1, c1, k2, n2, a2, c2, a3, c3, f1, f2, f3, rfl, hnm, ht1, ht2, rfl, hs⟩ := hat.parts
  obtain ⟨a, cap, hss, hc, hmx, hget⟩ := hs.open
  cases hss
  have HG := hid hget
  clear hget hat ht1 ht2 hs
  have hb0 : Below w.heap.size w (w.alloc (Obj.cells #[.int .i64 k, .string nm, .int .i64 num, .int .i64 k1, .slice a1 n1 c1, .int .i64 k2, .slice a2 n2 c2, .int .i64 lb, .slice a3 ts.length c3] 40)) := (Below.refl _ _).alloc (Nat.le_refl _) _
  have hn2 : ¬ n < 1 := by omega
  by_cases hm : m < 1
  · have HR := hid (cw_lo hm (d + 1) (.mk k nm num ty fr lb ts))
    clear hn hat0
    go_enter Tryd.func136, Tryd.ntmps136
    go_wp2_with fail
    go_ret
    exact ⟨ret_i HR.out.symm, hb0⟩
  have HN := hid hn
  clear hn
  have HNV := hid (nodeValid_any k nm num ty fr lb ts _ _ _ (hF.below hb0) (hat0.below hb0))
  have HSH := hid (shpM_node d k nm num ty fr lb ts)
  generalize nodeB k nm num ty fr lb ts.length = r at *
  clear hat0
  cases r
  · have HR := hid (show cw m (d + 1) (.mk k nm num ty fr lb ts) = 0 by unfold cw; rw [HSH.out]; simp)
    go_enter Tryd.func136, Tryd.ntmps136
    go_wp2_with fail
    refine HNV.out.mono ?_
    rintro e w1 ⟨rfl, hb1⟩
    go_wp2_with fail
    go_ret
    exact ⟨ret_i HR.out.symm, below_trans hb0 hb1⟩
  have hF0 := hF.below hb0
  go_enter Tryd.func136, Tryd.ntmps136
  go_wp2_with fail
  refine HNV.out.mono ?_
  rintro e w1 ⟨rfl, hb1⟩
  obtain ⟨z0, z1, z2, z3, z4, z5, z6, z7, z8⟩ := box9 hb1
  go_wp2_with fail
  go_loopw [7, 25] (fun l i wr => ∃ (j : Nat), j ≤ ts.length ∧ i = .int .i64 j ∧ l = .int .i64 (1 + sumL (cntD d) (ts.take j)) ∧ 1 + sumL (cntD d) (ts.take j) ≤ m ∧ (ts.take j).all (shpM d) = true ∧ Below (w.alloc (Obj.cells #[.int .i64 k, .string nm, .int .i64 num, .int .i64 k1, .slice a1 n1 c1, .int .i64 k2, .slice a2 n2 c2, .int .i64 lb, .slice a3 ts.length c3] 40)).heap.size (w.alloc (Obj.cells #[.int .i64 k, .string nm, .int .i64 num, .int .i64 k1, .slice a1 n1 c1, .int .i64 k2, .slice a2 n2 c2, .int .i64 lb, .slice a3 ts.length c3] 40)) wr) (fun _ i _ => ts.length - (intOf i).toNat)
  case atStart => exact ⟨0, Nat.zero_le _, rfl, by simp [sumL], by simp [sumL]; omega, rfl, hb1⟩
  case round =>
    obtain ⟨j, hj, rfl, rfl, hle, hall, hb⟩ := hrel
    clear z0 z1 z2 z3 z4 z5 z6 z7 z8
    obtain ⟨z0, z1, z2, z3, z4, z5, z6, z7, z8⟩ := box9 hb
    have hlo := sumL_nonneg d (ts.take j)
    have HALL := hid hall
    clear hall
    by_cases hlk : j < ts.length
    · obtain ⟨b, o, q0, q1, q2, q3, q4, q5, q6, q7, q8, q9, q10, q11, q12, q13, q14, g1, rfl, hblt, e0, e1, e2, e3, e4, e5, e6, e7, e8, hat, hf⟩ := HG.out j hlk
      have hbw := alloc1 hb
      replace e0 := cell_keep e0 hbw
      replace e1 := cell_keep e1 hbw
      replace e2 := cell_keep e2 hbw
      replace e3 := cell_keep e3 hbw
      replace e4 := cell_keep e4 hbw
      replace e5 := cell_keep e5 hbw
      replace e6 := cell_keep e6 hbw
      replace e7 := cell_keep e7 hbw
      replace e8 := cell_keep e8 hbw
      have HST := hid (sumL_take (f := cntD d) hlk)
      have HAT := hid (all_take (d := d) hlk)
      generalize hsum : sumL (cntD d) (ts.take j) = sm at *
      have HSM := hid hsum
      clear hsum
      generalize hr : cw (m - (1 + sm)) d ts[j] = r
      have HR := hid hr
      have hrb : 0 ≤ r ∧ r ≤ m - (1 + sm) := by
        rw [← hr]; unfold cw
        have := cntD_pos d ts[j]
        split <;> omega
      clear hr
      go_wp2_with fail
      refine (HIH.out _ _ _ _ _ _ (by omega) (by omega) (by omega) (by have := HN.out; omega) ((hF.below hbw).below ?_) (hat.below (below_trans hbw ?_))).mono ?_
      · exact (Below.refl _ _).alloc (Nat.le_refl _) _
      · exact (Below.refl _ _).alloc (Nat.le_refl _) _
      rintro e w2 ⟨rfl, hb2⟩
      rw [HR.out]
      have hbb := below_trans hb (alloc1 hb2)
      clear hb hb2 hat e0 e1 e2 e3 e4 e5 e6 e7 e8 z0 z1 z2 z3 z4 z5 z6 z7 z8
      by_cases h0 : r = 0
      · subst h0
        have HC := hid (cw_stop (m := m) (c := 1 + sm) k nm num ty fr lb hlk (by rw [HSM.out]) HR.out)
        go_wp2_with fail
        go_ret
        exact ⟨ret_i HC.out.symm, alloc1 hbb⟩
      · have h1 : (r == 0) = false := by simpa using h0
        have HX := hid (cw_some HR.out h0)
        go_wp2_with fail
        go_roundw
        case rel => exact ⟨j + 1, by omega, by go_num, by rw [HST.out, HX.out.2, ← Int.add_assoc], by rw [HST.out, HX.out.2]; omega, by rw [HAT.out, HALL.out, HX.out.1]; rfl, hbb⟩
        case measure => simp [intOf]; omega
    · go_wp2_with fail
      go_ret
      exact ⟨ret_i (by
        have hz : ts.take j = ts := List.take_of_length_le (by omega)
        rw [hz] at hle HALL ⊢
        unfold cw
        rw [HSH.out, HALL.out, if_pos]
        · simp only [cntD]
        · exact ⟨rfl, by simp only [cntD]; exact hle⟩), alloc1 hb⟩

theorem nodesWithin_any (d : Nat) : NwC d := by
  induction d with
  | zero => exact nodesWithin_zero
  | succ d ih => exact nodesWithin_succ d ih

theorem cntN_cw (t : Tm) : cntN t = cw 30 12 t := by
  unfold cntN cw vldM
  simp only [Bool.and_eq_true, decide_eq_true_eq]

set_option maxHeartbeats 1000000 in
theorem implCountNodes (t : Tm) (v : Value) (fp : List Nat) (w : World) (hF : Forms w) (hat : t.At w v fp) :
    Calls Tryd.prog 96 #[v] w fun e w' => e = .returned (.int .i64 (cntN t)) ∧ Below w.heap.size w w' := by
  obtain ⟨k, nm, num, k1, n1, a1, c1, k2, n2, a2, c2, lb, n3, a3, c3, rfl⟩ := hat.agg
  have hb0 : Below w.heap.size w (w.alloc (Obj.cells #[.int .i64 k, .string nm, .int .i64 num, .int .i64 k1, .slice a1 n1 c1, .int .i64 k2, .slice a2 n2 c2, .int .i64 lb, .slice a3 n3 c3] 40)) := (Below.refl _ _).alloc (Nat.le_refl _) _
  have HE := hid (cntN_cw t)
  go_enter Tryd.func96, Tryd.ntmps96
  go_wp2_with fail
  refine (nodesWithin_any 12 t _ _ 30 12 _ (by omega) (by omega) (by omega) rfl (hF.below hb0) (hat.below hb0)).mono ?_
  rintro e w1 ⟨rfl, hb1⟩
  go_wp2_with fail
  go_ret
  exact ⟨ret_i HE.out.symm, alloc1 hb1⟩

theorem cntN_pos (t : Tm) : decide (cntN t > 0) = vldM t := by
  unfold cntN
  have := cntD_pos 12 t
  cases vldM t
  · simp
  · simp; omega

theorem cntN_range (t : Tm) : 0 ≤ cntN t ∧ cntN t ≤ 30 := by
  have := cntD_pos 12 t
  rw [cntN_cw]
  unfold cw
  split <;> omega

set_option maxHeartbeats 1000000 in
theorem implTermValid (t : Tm) (v : Value) (fp : List Nat) (w : World) (hF : Forms w) (hat : t.At w v fp) :
    Calls Tryd.prog 54 #[v] w fun e w' => e = .returned (.bool (vldM t)) ∧ Below w.heap.size w w' := by
  obtain ⟨k, nm, num, k1, n1, a1, c1, k2, n2, a2, c2, lb, n3, a3, c3, rfl⟩ := hat.agg
  have hb0 : Below w.heap.size w (w.alloc (Obj.cells #[.int .i64 k, .string nm, .int .i64 num, .int .i64 k1, .slice a1 n1 c1, .int .i64 k2, .slice a2 n2 c2, .int .i64 lb, .slice a3 n3 c3] 40)) := (Below.refl _ _).alloc (Nat.le_refl _) _
  have HE := hid (cntN_pos t)
  have hr := cntN_range t
  have HC := hid (implCountNodes t _ _ _ (hF.below hb0) (hat.below hb0))
  generalize cntN t = c at *
  go_enter Tryd.func54, Tryd.ntmps54
  go_wp2_with fail
  refine HC.out.mono ?_
  rintro e w1 ⟨rfl, hb1⟩
  go_wp2_with fail
  go_ret
  exact ⟨ret_b (by rw [← HE.out]), alloc1 hb1⟩
end Go.Proofs.YtgmpndpehhbmgaaDoor

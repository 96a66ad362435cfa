/- The specification's count of nodes; its TermValid and CountNodes. -/
import Derived.Deep.RegionHeld3
import Derived.Test.YtjpmlmdbldcbjaaDoorQOwn
namespace Go.Proofs.YtjpmlmdbldcbjaaDoor
open Go.RowKit

def CnMC (d : Nat) : Prop := ∀ (t : Tm) (v : Value) (fp : List Nat) (n : Int) (w : World), 0 ≤ n → n ≤ 100 → n.toNat = d → t.sz ≤ 1048576 → t.At w v fp →
  Calls Tryd.prog 45 #[v, .int .i64 n] w fun e w' => e = .returned (.int .i64 (cntD d t)) ∧ Below w.heap.size w w'

set_option maxHeartbeats 1000000 in
theorem l2Count_zero : CnMC 0 := by
  intro t v fp n w hz hn0 hn hsz hat
  obtain ⟨k, nm, num, ty, fr, lb, ts, rfl⟩ := t.shape
  obtain ⟨k1, n1, a1, c1, k2, n2, a2, c2, a3, c3, f1, f2, f3, rfl, hnm, ht1, ht2, rfl, hs⟩ := hat.parts
  obtain ⟨a, cap, hss, hc, hm, hget⟩ := hs.open
  cases hss
  obtain rfl : n = 0 := by omega
  clear hget
  by_cases hl : 0 < ts.length
  · have hl1 : (0 : Int) < (ts.length : Int) := by omega
    go_enter Tryd.func45, Tryd.ntmps45
    go_wp2_with fail
    go_loopw [5, 6] (fun l i wr => l = .int .i64 1 ∧ i = .int .i64 0 ∧ Below w.heap.size w wr ∧ wr.cell? ⟨w.heap.size, 8, none⟩ = some (.slice a3 ts.length c3)) (fun _ i _ => 0)
    case atStart => exact ⟨rfl, rfl, (Below.refl _ _).alloc (Nat.le_refl _) _, by simp⟩
    case round =>
      obtain ⟨rfl, rfl, hb, hcell⟩ := hrel
      go_wp2_with fail
      go_ret
      exact ⟨by simp only [cntD]; rfl, hb⟩
  · have hl1 : ¬ (0 : Int) < (ts.length : Int) := by omega
    go_enter Tryd.func45, Tryd.ntmps45
    go_wp2_with fail
    go_loopw [5, 6] (fun l i wr => l = .int .i64 1 ∧ i = .int .i64 0 ∧ Below w.heap.size w wr ∧ wr.cell? ⟨w.heap.size, 8, none⟩ = some (.slice a3 ts.length c3)) (fun _ i _ => 0)
    case atStart => exact ⟨rfl, rfl, (Below.refl _ _).alloc (Nat.le_refl _) _, by simp⟩
    case round =>
      obtain ⟨rfl, rfl, hb, hcell⟩ := hrel
      go_wp2_with fail
      go_ret
      exact ⟨by simp only [cntD]; rfl, hb⟩

theorem sumL_take {f : Tm → Int} {ts : List Tm} {k : Nat} (h : k < ts.length) : sumL f (ts.take (k + 1)) = sumL f (ts.take k) + f ts[k] := by
  rw [take_succM h]
  generalize ts.take k = l
  induction l with
  | nil => simp [sumL]
  | cons a l ih => simp only [List.cons_append, sumL, ih]; omega

theorem sumL_take_le {d : Nat} : ∀ {ts : List Tm} (k : Nat), sumL (cntD d) (ts.take k) ≤ sumL (cntD d) ts
  | [], k => by simp
  | t :: ts, 0 => by simpa [sumL] using sumL_nonneg d (t :: ts)
  | t :: ts, k + 1 => by simp only [List.take_succ_cons, sumL]; have := sumL_take_le (d := d) (ts := ts) k; omega

set_option maxHeartbeats 2000000 in
theorem l2Count_succ (d : Nat) (ih : CnMC d) : CnMC (d + 1) := by
  intro t v fp n w hz hn0 hn hsz hat
  have HIH := hid ih
  clear ih
  obtain ⟨k, nm, num, ty, fr, lb, ts, rfl⟩ := t.shape
  obtain ⟨k1, n1, a1, c1, k2, n2, a2, c2, a3, c3, f1, f2, f3, rfl, hnm, ht1, ht2, rfl, hs⟩ := hat.parts
  obtain ⟨a, cap, hss, hc, hm, hget⟩ := hs.open
  cases hss
  have HG := hid hget
  have hn1 : 1 ≤ n := by omega
  have HN := hid hn
  have HS := hid (show ts.length + szML ts ≤ 1048576 by simp only [Tm.sz] at hsz; omega)
  clear hget hat ht1 ht2 hn hsz hz hs
  go_enter Tryd.func45, Tryd.ntmps45
  go_wp2_with fail
  go_loopw [5, 6] (fun l i wr => ∃ (j : Nat), j ≤ ts.length ∧ i = .int .i64 j ∧ l = .int .i64 (1 + sumL (cntD d) (ts.take j)) ∧ Below (w.alloc (Obj.cells #[.int .i64 k, .string nm, .int .i64 num, .int .i64 k1, .slice a1 n1 c1, .int .i64 k2, .slice a2 n2 c2, .int .i64 lb, .slice a3 ts.length c3] 34)).heap.size (w.alloc (Obj.cells #[.int .i64 k, .string nm, .int .i64 num, .int .i64 k1, .slice a1 n1 c1, .int .i64 k2, .slice a2 n2 c2, .int .i64 lb, .slice a3 ts.length c3] 34)) wr) (fun _ i _ => ts.length - (intOf i).toNat)
  case atStart => exact ⟨0, Nat.zero_le _, rfl, by simp [sumL], Below.refl _ _⟩
  case round =>
    obtain ⟨j, hj, rfl, rfl, hb⟩ := hrel
    obtain ⟨z0, z1, z2, z3, z4, z5, z6, z7, z8⟩ := box9 hb
    have hbd1 := sumL_take_le (d := d) (ts := ts) j
    have hbd2 := sumD_le d ts
    have hbd3 := sumL_nonneg d (ts.take j)
    have hbd : 0 ≤ sumL (cntD d) (ts.take j) ∧ sumL (cntD d) (ts.take j) ≤ 1048576 := by have := HS.out; omega
    clear hbd1 hbd2 hbd3
    by_cases hlk : j < ts.length
    · obtain ⟨b, o, q0, q1, q2, q3, q4, q5, q6, q7, q8, q9, q10, q11, q12, q13, q14, g1, rfl, hblt, e0, e1, e2, e3, e4, e5, e6, e7, e8, hat, hf⟩ := HG.out j hlk
      have hbw := alloc1 hb
      replace e0 := cell_keep e0 hbw
      replace e1 := cell_keep e1 hbw
      replace e2 := cell_keep e2 hbw
      replace e3 := cell_keep e3 hbw
      replace e4 := cell_keep e4 hbw
      replace e5 := cell_keep e5 hbw
      replace e6 := cell_keep e6 hbw
      replace e7 := cell_keep e7 hbw
      replace e8 := cell_keep e8 hbw
      have HST := hid (sumL_take (f := cntD d) hlk)
      have hsj := sz_mem (List.getElem_mem hlk)
      have hcj := cntD_le d ts[j]
      have hcp := cntD_pos d ts[j]
      have hszj : ts[j].sz ≤ 1048576 := by have := HS.out; omega
      generalize hr : cntD d ts[j] = r at *
      have HR := hid hr
      have hrb : 1 ≤ r ∧ r ≤ 1048577 := by omega
      clear hr hsj hcj hcp
      generalize hsum : sumL (cntD d) (ts.take j) = sm at *
      have HSM := hid hsum
      clear hsum
      go_wp2_with fail
      refine (HIH.out _ _ _ _ _ (by omega) (by omega) (by have := HN.out; omega) hszj (hat.below hbw)).mono ?_
      rintro e w2 ⟨rfl, hb1⟩
      rw [HR.out]
      have hbb := below_trans hb hb1
      clear hb hb1 hat e0 e1 e2 e3 e4 e5 e6 e7 e8 hbw z0 z1 z2 z3 z4 z5 z6 z7 z8
      go_wp2_with fail
      go_roundw
      case rel => exact ⟨j + 1, by omega, by go_num, by rw [HST.out, ← Int.add_assoc], hbb⟩
      case measure => simp [intOf]; omega
    · go_wp2_with fail
      go_ret
      exact ⟨ret_i (by simp only [cntD]; rw [List.take_of_length_le (by omega)]), alloc1 hb⟩

theorem l2Count_any (d : Nat) : CnMC d := by
  induction d with
  | zero => exact l2Count_zero
  | succ d ih => exact l2Count_succ d ih

end Go.Proofs.YtjpmlmdbldcbjaaDoor

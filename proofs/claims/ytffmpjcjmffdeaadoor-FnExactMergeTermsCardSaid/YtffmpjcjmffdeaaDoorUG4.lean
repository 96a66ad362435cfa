/- The specification's tests of terms: l2Shape, l2Count, TermValid, CountNodes. The specification's count of nodes; its TermValid and CountNodes. -/
import Derived.Deep.RegionHeld3
import Derived.Test.YtffmpjcjmffdeaaDoorUOwn
namespace Go.Proofs.YtffmpjcjmffdeaaDoor
open Go.RowKit

def ShMC (d : Nat) : Prop := ∀ (t : Tm) (v : Value) (fp : List Nat) (n : Int) (w : World), n ≤ 100 → n.toNat = d → t.At w v fp →
  Calls Tryd.prog 109 #[v, .int .i64 n] w fun e w' => e = .returned (.bool (shpM d t)) ∧ Below w.heap.size w w'

set_option maxHeartbeats 1000000 in
theorem l2Shape_zero : ShMC 0 := by
  intro t v fp n w hn0 hn hat
  obtain ⟨k, nm, num, ty, fr, lb, ts, rfl⟩ := t.shape
  obtain ⟨k1, n1, a1, c1, k2, n2, a2, c2, a3, c3, f1, f2, f3, rfl, hnm, ht1, ht2, rfl, hs⟩ := hat.parts
  have hn1 : n < 1 := by omega
  have hn2 : decide (n < 1) = true := by simp; omega
  clear hn
  go_enter Tryd.func109, Tryd.ntmps109
  go_wp2_with fail
  go_quiet (fail)
  go_wp2_with fail
  go_ret
  exact ⟨ret_b (by simp only [shpM]), belowN ((Below.refl _ _).alloc (Nat.le_refl _) _) _⟩

set_option maxHeartbeats 2000000 in
theorem l2Shape_succ (d : Nat) (ih : ShMC d) : ShMC (d + 1) := by
  intro t v fp n w hn0 hn hat
  have HIH := hid ih
  clear ih
  obtain ⟨k, nm, num, ty, fr, lb, ts, rfl⟩ := t.shape
  have hat0 := hat
  obtain ⟨k1, n1, a1, c1, k2, n2, a2, c2, a3, c3, f1, f2, f3, rfl, hnm, ht1, ht2, rfl, hs⟩ := hat.parts
  obtain ⟨a, cap, hss, hc, hm, hget⟩ := hs.open
  cases hss
  have HG := hid hget
  clear hget hat ht1 ht2
  have hn1 : 1 ≤ n := by omega
  have hn2 : decide (n < 1) = false := by simp; omega
  have HN := hid hn
  clear hn
  have hb0 : Below w.heap.size w (w.alloc (Obj.cells #[.int .i64 k, .string nm, .int .i64 num, .int .i64 k1, .slice a1 n1 c1, .int .i64 k2, .slice a2 n2 c2, .int .i64 lb, .slice a3 ts.length c3] 35)) := (Below.refl _ _).alloc (Nat.le_refl _) _
  have hat1 := hat0.below hb0
  obtain ⟨z0, z1, z2, z3, z4, z5, z6, z7, z8⟩ := box9 (Below.refl (w.alloc (Obj.cells #[.int .i64 k, .string nm, .int .i64 num, .int .i64 k1, .slice a1 n1 c1, .int .i64 k2, .slice a2 n2 c2, .int .i64 lb, .slice a3 ts.length c3] 35)).heap.size (w.alloc (Obj.cells #[.int .i64 k, .string nm, .int .i64 num, .int .i64 k1, .slice a1 n1 c1, .int .i64 k2, .slice a2 n2 c2, .int .i64 lb, .slice a3 ts.length c3] 35)))
  by_cases hk : kidsM k = (ts.length : Int)
  case neg =>
    have hk1 : (kidsM k == (ts.length : Int)) = false := by simpa using hk
    have hk2 : (kidsM k != (ts.length : Int)) = true := by simpa using hk
    have HT := hid (show shpM (d + 1) (.mk k nm num ty fr lb ts) = false by simp [shpM, hk])
    clear hk z0 z1 z2 z3 z4 z5 z6 z7 z8
    go_enter Tryd.func109, Tryd.ntmps109
    go_wp2_with fail
    go_quiet ((go_at_call 145; exact Calls.quiet_of_same (l2Kids_any _ _)))
    go_wp2_with fail
    go_ret
    exact ⟨ret_b HT.out.symm, belowN hb0 _⟩
  have hk1 : (kidsM k == (ts.length : Int)) = true := by simpa using hk
  have hk2 : (kidsM k != (ts.length : Int)) = false := by simpa using hk
  by_cases h14 : k = 14
  case pos =>
    subst h14
    have HT := hid (show shpM (d + 1) (.mk 14 nm num ty fr lb ts) = false by simp [shpM])
    clear hk z0 z1 z2 z3 z4 z5 z6 z7 z8
    go_enter Tryd.func109, Tryd.ntmps109
    go_wp2_with fail
    go_quiet ((go_at_call 145; exact Calls.quiet_of_same (l2Kids_any _ _)))
    go_wp2_with fail
    go_ret
    exact ⟨ret_b HT.out.symm, belowN hb0 _⟩
  have e14 : (k == 14) = false := by simpa using h14
  have d14 : (k != 14) = true := by simpa using h14
  have HT := hid (show shpM (d + 1) (.mk k nm num ty fr lb ts) = (ownM k nm num ty fr lb && ts.all (shpM d)) by simp [shpM, hk, d14])
  clear hk h14
  generalize hown : ownM k nm num ty fr lb = r at HT
  have HO := hid hown
  clear hown
  go_enter Tryd.func109, Tryd.ntmps109
  go_wp2_with fail
  go_region_held3 (fun w' => Below (w.alloc (Obj.cells #[.int .i64 k, .string nm, .int .i64 num, .int .i64 k1, .slice a1 n1 c1, .int .i64 k2, .slice a2 n2 c2, .int .i64 lb, .slice a3 ts.length c3] 35)).heap.size (w.alloc (Obj.cells #[.int .i64 k, .string nm, .int .i64 num, .int .i64 k1, .slice a1 n1 c1, .int .i64 k2, .slice a2 n2 c2, .int .i64 lb, .slice a3 ts.length c3] 35)) w' ∧ w'.cell? ⟨w.heap.size, 0, none⟩ = some (.int .i64 k) ∧ w'.cell? ⟨w.heap.size, 1, none⟩ = some (.string nm) ∧ w'.cell? ⟨w.heap.size, 2, none⟩ = some (.int .i64 num) ∧ w'.cell? ⟨w.heap.size, 3, none⟩ = some (.int .i64 k1) ∧ w'.cell? ⟨w.heap.size, 4, none⟩ = some (.slice a1 n1 c1) ∧ w'.cell? ⟨w.heap.size, 5, none⟩ = some (.int .i64 k2) ∧ w'.cell? ⟨w.heap.size, 6, none⟩ = some (.slice a2 n2 c2) ∧ w'.cell? ⟨w.heap.size, 7, none⟩ = some (.int .i64 lb) ∧ w'.cell? ⟨w.heap.size, 8, none⟩ = some (.slice a3 ts.length c3))
    ((refine (fun hB => ⟨hB, cell_keep z0 hB, cell_keep z1 hB, cell_keep z2 hB, cell_keep z3 hB, cell_keep z4 hB, cell_keep z5 hB, cell_keep z6 hB, cell_keep z7 hB, cell_keep z8 hB⟩ : Below (w.alloc (Obj.cells #[.int .i64 k, .string nm, .int .i64 num, .int .i64 k1, .slice a1 n1 c1, .int .i64 k2, .slice a2 n2 c2, .int .i64 lb, .slice a3 ts.length c3] 35)).heap.size (w.alloc (Obj.cells #[.int .i64 k, .string nm, .int .i64 num, .int .i64 k1, .slice a1 n1 c1, .int .i64 k2, .slice a2 n2 c2, .int .i64 lb, .slice a3 ts.length c3] 35)) _ → _) ?_; (first | exact below_drew _ | exact below_trans (below_drew _) hb1)))
    (first
      | (go_at_call 145; refine (l2Kids_any _ _).mono ?_; rintro e w1 ⟨rfl, rfl⟩)
      | (go_at_call 147; refine (l2Own_any k nm num ty fr lb ts _ _ _ (hat1.below (below_drew _))).mono ?_; rw [HO.out]; rintro e w1 ⟨rfl, hb1⟩))
  have hbb0 : Below (w.alloc (Obj.cells #[.int .i64 k, .string nm, .int .i64 num, .int .i64 k1, .slice a1 n1 c1, .int .i64 k2, .slice a2 n2 c2, .int .i64 lb, .slice a3 ts.length c3] 35)).heap.size (w.alloc (Obj.cells #[.int .i64 k, .string nm, .int .i64 num, .int .i64 k1, .slice a1 n1 c1, .int .i64 k2, .slice a2 n2 c2, .int .i64 lb, .slice a3 ts.length c3] 35)) w1 := below_trans (below_drew _) hb1
  clear z0 z1 z2 z3 z4 z5 z6 z7 z8 hb1 hat1 hat0
  obtain ⟨z0, z1, z2, z3, z4, z5, z6, z7, z8⟩ := box9 hbb0
  cases r
  · go_wp2_with fail
    go_ret
    exact ⟨ret_b (by rw [HT.out, Bool.false_and]), alloc1 hbb0⟩
  go_wp2_with fail
  go_loopw [5] (fun i wr => ∃ j : Nat, j ≤ ts.length ∧ i = .int .i64 j ∧ (ts.drop j).all (shpM d) = ts.all (shpM d) ∧ Below (w.alloc (Obj.cells #[.int .i64 k, .string nm, .int .i64 num, .int .i64 k1, .slice a1 n1 c1, .int .i64 k2, .slice a2 n2 c2, .int .i64 lb, .slice a3 ts.length c3] 35)).heap.size (w.alloc (Obj.cells #[.int .i64 k, .string nm, .int .i64 num, .int .i64 k1, .slice a1 n1 c1, .int .i64 k2, .slice a2 n2 c2, .int .i64 lb, .slice a3 ts.length c3] 35)) wr) (fun i _ => ts.length - (intOf i).toNat)
  case atStart => exact ⟨0, Nat.zero_le _, rfl, rfl, hbb0⟩
  case round =>
    obtain ⟨j, hj, rfl, hdr, hb⟩ := hrel
    have HD := hid hdr
    clear hdr hbb0 z0 z1 z2 z3 z4 z5 z6 z7 z8
    obtain ⟨z0, z1, z2, z3, z4, z5, z6, z7, z8⟩ := box9 hb
    by_cases hlk : j < ts.length
    · obtain ⟨b, o, q0, q1, q2, q3, q4, q5, q6, q7, q8, q9, q10, q11, q12, q13, q14, g1, rfl, hblt, e0, e1, e2, e3, e4, e5, e6, e7, e8, hat, hf⟩ := HG.out j hlk
      have hbw := alloc1 hb
      replace e0 := cell_keep e0 hbw
      replace e1 := cell_keep e1 hbw
      replace e2 := cell_keep e2 hbw
      replace e3 := cell_keep e3 hbw
      replace e4 := cell_keep e4 hbw
      replace e5 := cell_keep e5 hbw
      replace e6 := cell_keep e6 hbw
      replace e7 := cell_keep e7 hbw
      replace e8 := cell_keep e8 hbw
      have HST := hid (shpM_all (d := d) hlk)
      go_wp2_with fail
      refine (HIH.out _ _ _ _ _ (by omega) (by have := HN.out; omega) (hat.below hbw)).mono ?_
      rintro e w2 ⟨rfl, hb1⟩
      have hbb := below_trans hb hb1
      clear hb hb1 hat e0 e1 e2 e3 e4 e5 e6 e7 e8 hbw z0 z1 z2 z3 z4 z5 z6 z7 z8
      generalize shpM d ts[j] = r at *
      cases r
      · go_wp2_with fail
        go_ret
        exact ⟨ret_b (by rw [HT.out, ← HD.out, HST.out, Bool.false_and, Bool.and_false]), alloc1 hbb⟩
      · go_wp2_with fail
        go_roundw
        case rel => exact ⟨_, _, _, _, _, _, _, _, _, _, _, _, _, _, _, _, _, _, ⟨j + 1, by omega, by go_num, by rw [← HD.out, HST.out, Bool.true_and], hbb⟩, rfl⟩
        case measure => simp [intOf]; omega
    · go_wp2_with fail
      go_ret
      exact ⟨ret_b (by rw [HT.out, ← HD.out, List.drop_of_length_le (by omega), List.all_nil, Bool.and_true]), alloc1 hb⟩

theorem l2Shape_any (d : Nat) : ShMC d := by
  induction d with
  | zero => exact l2Shape_zero
  | succ d ih => exact l2Shape_succ d ih
end Go.Proofs.YtffmpjcjmffdeaaDoor

namespace Go.Proofs.YtffmpjcjmffdeaaDoor
open Go.RowKit

def CnMC (d : Nat) : Prop := ∀ (t : Tm) (v : Value) (fp : List Nat) (n : Int) (w : World), 0 ≤ n → n ≤ 100 → n.toNat = d → t.sz ≤ 1048576 → t.At w v fp →
  Calls Tryd.prog 104 #[v, .int .i64 n] w fun e w' => e = .returned (.int .i64 (cntD d t)) ∧ Below w.heap.size w w'

set_option maxHeartbeats 1000000 in
theorem l2Count_zero : CnMC 0 := by
  intro t v fp n w hz hn0 hn hsz hat
  obtain ⟨k, nm, num, ty, fr, lb, ts, rfl⟩ := t.shape
  obtain ⟨k1, n1, a1, c1, k2, n2, a2, c2, a3, c3, f1, f2, f3, rfl, hnm, ht1, ht2, rfl, hs⟩ := hat.parts
  obtain ⟨a, cap, hss, hc, hm, hget⟩ := hs.open
  cases hss
  obtain rfl : n = 0 := by omega
  clear hget
  by_cases hl : 0 < ts.length
  · have hl1 : (0 : Int) < (ts.length : Int) := by omega
    go_enter Tryd.func104, Tryd.ntmps104
    go_wp2_with fail
    go_loopw [5, 6] (fun l i wr => l = .int .i64 1 ∧ i = .int .i64 0 ∧ Below w.heap.size w wr ∧ wr.cell? ⟨w.heap.size, 8, none⟩ = some (.slice a3 ts.length c3)) (fun _ i _ => 0)
    case atStart => exact ⟨rfl, rfl, (Below.refl _ _).alloc (Nat.le_refl _) _, by simp⟩
    case round =>
      obtain ⟨rfl, rfl, hb, hcell⟩ := hrel
      go_wp2_with fail
      go_ret
      exact ⟨by simp only [cntD]; rfl, hb⟩
  · have hl1 : ¬ (0 : Int) < (ts.length : Int) := by omega
    go_enter Tryd.func104, Tryd.ntmps104
    go_wp2_with fail
    go_loopw [5, 6] (fun l i wr => l = .int .i64 1 ∧ i = .int .i64 0 ∧ Below w.heap.size w wr ∧ wr.cell? ⟨w.heap.size, 8, none⟩ = some (.slice a3 ts.length c3)) (fun _ i _ => 0)
    case atStart => exact ⟨rfl, rfl, (Below.refl _ _).alloc (Nat.le_refl _) _, by simp⟩
    case round =>
      obtain ⟨rfl, rfl, hb, hcell⟩ := hrel
      go_wp2_with fail
      go_ret
      exact ⟨by simp only [cntD]; rfl, hb⟩

theorem sumL_take {f : Tm → Int} {ts : List Tm} {k : Nat} (h : k < ts.length) : sumL f (ts.take (k + 1)) = sumL f (ts.take k) + f ts[k] := by
  rw [take_succM h]
  generalize ts.take k = l
  induction l with
  | nil => simp [sumL]
  | cons a l ih => simp only [List.cons_append, sumL, ih]; omega

theorem sumL_take_le {d : Nat} : ∀ {ts : List Tm} (k : Nat), sumL (cntD d) (ts.take k) ≤ sumL (cntD d) ts
  | [], k => by simp
  | t :: ts, 0 => by simpa [sumL] using sumL_nonneg d (t :: ts)
  | t :: ts, k + 1 => by simp only [List.take_succ_cons, sumL]; have := sumL_take_le (d := d) (ts := ts) k; omega

set_option maxHeartbeats 2000000 in
theorem l2Count_succ (d : Nat) (ih : CnMC d) : CnMC (d + 1) := by
  intro t v fp n w hz hn0 hn hsz hat
  have HIH := hid ih
  clear ih
  obtain ⟨k, nm, num, ty, fr, lb, ts, rfl⟩ := t.shape
  obtain ⟨k1, n1, a1, c1, k2, n2, a2, c2, a3, c3, f1, f2, f3, rfl, hnm, ht1, ht2, rfl, hs⟩ := hat.parts
  obtain ⟨a, cap, hss, hc, hm, hget⟩ := hs.open
  cases hss
  have HG := hid hget
  have hn1 : 1 ≤ n := by omega
  have HN := hid hn
  have HS := hid (show ts.length + szML ts ≤ 1048576 by simp only [Tm.sz] at hsz; omega)
  clear hget hat ht1 ht2 hn hsz hz hs
  go_enter Tryd.func104, Tryd.ntmps104
  go_wp2_with fail
  go_loopw [5, 6] (fun l i wr => ∃ (j : Nat), j ≤ ts.length ∧ i = .int .i64 j ∧ l = .int .i64 (1 + sumL (cntD d) (ts.take j)) ∧ Below (w.alloc (Obj.cells #[.int .i64 k, .string nm, .int .i64 num, .int .i64 k1, .slice a1 n1 c1, .int .i64 k2, .slice a2 n2 c2, .int .i64 lb, .slice a3 ts.length c3] 35)).heap.size (w.alloc (Obj.cells #[.int .i64 k, .string nm, .int .i64 num, .int .i64 k1, .slice a1 n1 c1, .int .i64 k2, .slice a2 n2 c2, .int .i64 lb, .slice a3 ts.length c3] 35)) wr) (fun _ i _ => ts.length - (intOf i).toNat)
  case atStart => exact ⟨0, Nat.zero_le _, rfl, by simp [sumL], Below.refl _ _⟩
  case round =>
    obtain ⟨j, hj, rfl, rfl, hb⟩ := hrel
    obtain ⟨z0, z1, z2, z3, z4, z5, z6, z7, z8⟩ := box9 hb
    have hbd1 := sumL_take_le (d := d) (ts := ts) j
    have hbd2 := sumD_le d ts
    have hbd3 := sumL_nonneg d (ts.take j)
    have hbd : 0 ≤ sumL (cntD d) (ts.take j) ∧ sumL (cntD d) (ts.take j) ≤ 1048576 := by have := HS.out; omega
    clear hbd1 hbd2 hbd3
    by_cases hlk : j < ts.length
    · obtain ⟨b, o, q0, q1, q2, q3, q4, q5, q6, q7, q8, q9, q10, q11, q12, q13, q14, g1, rfl, hblt, e0, e1, e2, e3, e4, e5, e6, e7, e8, hat, hf⟩ := HG.out j hlk
      have hbw := alloc1 hb
      replace e0 := cell_keep e0 hbw
      replace e1 := cell_keep e1 hbw
      replace e2 := cell_keep e2 hbw
      replace e3 := cell_keep e3 hbw
      replace e4 := cell_keep e4 hbw
      replace e5 := cell_keep e5 hbw
      replace e6 := cell_keep e6 hbw
      replace e7 := cell_keep e7 hbw
      replace e8 := cell_keep e8 hbw
      have HST := hid (sumL_take (f := cntD d) hlk)
      have hsj := sz_mem (List.getElem_mem hlk)
      have hcj := cntD_le d ts[j]
      have hcp := cntD_pos d ts[j]
      have hszj : ts[j].sz ≤ 1048576 := by have := HS.out; omega
      generalize hr : cntD d ts[j] = r at *
      have HR := hid hr
      have hrb : 1 ≤ r ∧ r ≤ 1048577 := by omega
      clear hr hsj hcj hcp
      generalize hsum : sumL (cntD d) (ts.take j) = sm at *
      have HSM := hid hsum
      clear hsum
      go_wp2_with fail
      refine (HIH.out _ _ _ _ _ (by omega) (by omega) (by have := HN.out; omega) hszj (hat.below hbw)).mono ?_
      rintro e w2 ⟨rfl, hb1⟩
      rw [HR.out]
      have hbb := below_trans hb hb1
      clear hb hb1 hat e0 e1 e2 e3 e4 e5 e6 e7 e8 hbw z0 z1 z2 z3 z4 z5 z6 z7 z8
      go_wp2_with fail
      go_roundw
      case rel => exact ⟨j + 1, by omega, by go_num, by rw [HST.out, ← Int.add_assoc], hbb⟩
      case measure => simp [intOf]; omega
    · go_wp2_with fail
      go_ret
      exact ⟨ret_i (by simp only [cntD]; rw [List.take_of_length_le (by omega)]), alloc1 hb⟩

theorem l2Count_any (d : Nat) : CnMC d := by
  induction d with
  | zero => exact l2Count_zero
  | succ d ih => exact l2Count_succ d ih

set_option maxHeartbeats 1000000 in
theorem specTermValid (t : Tm) (v : Value) (fp : List Nat) (w : World) (hsz : t.sz ≤ 1048576) (hat : t.At w v fp) :
    Calls Tryd.prog 56 #[v] w fun e w' => e = .returned (.bool (vldM t)) ∧ Below w.heap.size w w' := by
  obtain ⟨k, nm, num, k1, n1, a1, c1, k2, n2, a2, c2, lb, n3, a3, c3, rfl⟩ := hat.agg
  have hb0 : Below w.heap.size w (w.alloc (Obj.cells #[.int .i64 k, .string nm, .int .i64 num, .int .i64 k1, .slice a1 n1 c1, .int .i64 k2, .slice a2 n2 c2, .int .i64 lb, .slice a3 n3 c3] 35)) := (Below.refl _ _).alloc (Nat.le_refl _) _
  have hat1 := hat.below hb0
  have HT := hid (show vldM t = (shpM 12 t && decide (cntD 12 t ≤ 30)) from rfl)
  generalize vldM t = vv at *
  have HS := hid (l2Shape_any 12 t _ _ 12 _ (by omega) rfl hat1)
  generalize hsh : shpM 12 t = r at *
  cases r
  · go_enter Tryd.func56, Tryd.ntmps56
    go_wp2_with fail
    refine HS.out.mono ?_
    rintro e w1 ⟨rfl, hb1⟩
    go_wp2_with fail
    go_ret
    exact ⟨ret_b (by rw [HT.out, Bool.false_and]), below_trans hb0 hb1⟩
  · generalize hcn : cntD 12 t = c at *
    have HC := hid hcn
    clear hcn hsh
    go_enter Tryd.func56, Tryd.ntmps56
    go_wp2_with fail
    refine HS.out.mono ?_
    rintro e w1 ⟨rfl, hb1⟩
    obtain ⟨z0, z1, z2, z3, z4, z5, z6, z7, z8⟩ := box9 hb1
    have b1 := below_trans hb0 hb1
    have hat2 := hat.below b1
    go_wp2_with fail
    refine (l2Count_any 12 t _ _ 12 _ (by omega) (by omega) rfl hsz hat2).mono ?_
    rw [HC.out]
    rintro e w2 ⟨rfl, hb2⟩
    go_wp2_with fail
    go_ret
    exact ⟨ret_b (by rw [HT.out, Bool.true_and]), below_trans b1 hb2⟩

/-- The document's CountNodes. -/
def cntN (t : Tm) : Int := if vldM t then cntD 12 t else 0

end Go.Proofs.YtffmpjcjmffdeaaDoor

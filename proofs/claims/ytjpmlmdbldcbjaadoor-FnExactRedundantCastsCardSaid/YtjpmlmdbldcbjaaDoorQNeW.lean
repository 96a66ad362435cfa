/- The program's test of a node: acceptsNode, for every term. -/
import Derived.Test.YtjpmlmdbldcbjaaDoorQNeA
import Derived.Test.YtjpmlmdbldcbjaaDoorQNeB
import Derived.Test.YtjpmlmdbldcbjaaDoorQNe7
import Derived.Test.YtjpmlmdbldcbjaaDoorQCnM
namespace Go.Proofs.YtjpmlmdbldcbjaaDoor
open Go.RowKit

theorem hasK_in {g k : Int} (hg : g = 13 ∨ g = 14) (h : hasK g k = true) : 1 ≤ k ∧ k ≤ 14 := by
  simp only [hasK, Bool.or_eq_true, Bool.and_eq_true, decide_eq_true_eq, beq_iff_eq] at h
  omega

set_option maxHeartbeats 1000000 in
theorem acceptsNode_any (g m n : Int) (hg : g = 13 ∨ g = 14) (k : Int) (nm : ByteArray) (num : Int) (ty fr : Ty) (lb : Int) (ts : List Tm) (v : Value) (fp : List Nat) (w : World) (hF : Forms w) (hat : Tm.At w (.mk k nm num ty fr lb ts) v fp) :
    Calls Tryd.prog 81 #[(.agg #[.int .i64 g, .int .i64 m, .int .i64 n]), v] w fun e w' => e = .returned (.bool (nodeG g k nm num ty fr lb ts.length)) ∧ Below w.heap.size w w' := by
  cases hk : hasK g k with
  | false =>
    have HR := hid (show nodeG g k nm num ty fr lb ts.length = false by simp [nodeG, hk])
    have HK := hid hk
    clear hk
    obtain ⟨k1, n1, a1, c1, k2, n2, a2, c2, a3, c3, f1, f2, f3, rfl, hnm, ht1, ht2, rfl, hs⟩ := hat.parts
    have hb0 : Below w.heap.size w ((w.alloc (Obj.cells #[.int .i64 g, .int .i64 m, .int .i64 n] 60)).alloc (Obj.cells #[.int .i64 k, .string nm, .int .i64 num, .int .i64 k1, .slice a1 n1 c1, .int .i64 k2, .slice a2 n2 c2, .int .i64 lb, .slice a3 ts.length c3] 34)) := ((Below.refl _ _).alloc (Nat.le_refl _) _).alloc (by simp) _
    have HB0 := hid hb0
    clear hat ht1 ht2 hs hb0
    go_enter Tryd.func81, Tryd.ntmps81
    go_wp2_with fail
    refine (hasKind_any g m n _ _).mono ?_
    rintro e w1 ⟨he, hb1⟩
    rw [HK.out] at he
    subst he
    have hbw := HB0.out.trans (hb1.mono HB0.out.size)
    clear hb1
    go_wp2_with fail
    go_ret
    exact ⟨ret_b HR.out.symm, hbw⟩
  | true =>
  have hin := hasK_in hg hk
  obtain ⟨j, rfl⟩ : ∃ j : Nat, k = (j : Int) := ⟨k.toNat, by omega⟩
  have hj1 : 1 ≤ j := by omega
  have hj2 : j < 15 := by omega
  obtain ⟨nk, hnk, hopn⟩ := frm_opn j hj1 hj2
  have HOP := hid hopn
  have HE : nodeG g (j : Int) nm num ty fr lb ts.length = ((nk : Int) == (ts.length : Int) && fldG (j : Int) nm num ty fr lb) := by simp only [nodeG, hk, hnk, Bool.true_and]
  rw [fldG_eq j hj1 hj2] at HE
  have hform := hF j hj2
  generalize frm j = form at *
  by_cases hl : nk = ts.length
  case neg =>
    rw [natbeq_ne hl] at HE
    simp only [Bool.false_and] at HE
    rw [HE]
    exact ne_len g m n j hj1 hj2 hk nm num ty fr lb ts v fp w form nk HOP hform hat (fun h => hl h.symm)
  rw [natbeq_eq hl, Bool.true_and] at HE
  cases hN : (if showsB form 110 = true then isNm nm else nm.toList.isEmpty)
  · rw [hN] at HE
    simp only [Bool.false_and] at HE
    rw [HE]
    exact ne_name g m n j hj1 hj2 hk nm num ty fr lb ts v fp w form nk HOP hform hat hl (hid hN)
  rw [hN, Bool.true_and] at HE
  by_cases hnum : 0 ≤ num
  case neg =>
    rw [num_bad hnum] at HE
    simp only [Bool.false_and] at HE
    rw [HE]
    exact ne_neg g m n j hj1 hj2 hk nm num ty fr lb ts v fp w form nk HOP hform hat hl (hid hN) (by omega) (hid (num_neg (by omega) _))
  rw [num_good hnum] at HE
  cases hM : (if showsB form 100 = true then decide (num ≤ 999) else num == 0)
  · rw [hM] at HE
    simp only [Bool.false_and] at HE
    rw [HE]
    exact ne_num g m n j hj1 hj2 hk nm num ty fr lb ts v fp w form nk HOP hform hat hl (hid hN) hnum (hid hM)
  rw [hM, Bool.true_and] at HE
  cases hT : (if showsB form 116 = true then vld ty else noTy ty)
  · rw [hT] at HE
    simp only [Bool.false_and] at HE
    rw [HE]
    exact ne_type g m n j hj1 hj2 hk nm num ty fr lb ts v fp w form nk HOP hform hat hl (hid hN) hnum (hid hM) (hid hT)
  rw [hT, Bool.true_and] at HE
  cases hFr : (if showsB form 115 = true then consOf fr ty else noTy fr)
  · rw [hFr] at HE
    simp only [Bool.false_and] at HE
    rw [HE]
    exact ne_from g m n j hj1 hj2 hk nm num ty fr lb ts v fp w form nk HOP hform hat hl (hid hN) hnum (hid hM) (hid hT) (hid hFr)
  rw [hFr, Bool.true_and] at HE
  rw [HE]
  exact ne_label g m n j hj1 hj2 hk nm num ty fr lb ts v fp w form nk HOP hform hat hl (hid hN) hnum (hid hM) (hid hT) (hid hFr) _ (hid rfl)

/-- Well formed in a grammar, down to a depth. -/
def shpG (g : Int) : Nat → Tm → Bool
  | 0, _ => false
  | d + 1, .mk k nm num ty fr lb ts => nodeG g k nm num ty fr lb ts.length && ts.all (shpG g d)

/-- The nodes of a term that is well formed and has at most so many; else 0. -/
def cwG (g nodes : Int) (d : Nat) (t : Tm) : Int := if shpG g d t = true ∧ cntD d t ≤ nodes then cntD d t else 0

def GcC (g : Int) (d : Nat) : Prop := ∀ (t : Tm) (v : Value) (fp : List Nat) (m n : Int) (w : World), m ≤ 1000 → -1000 ≤ m → n ≤ 100 → n.toNat = d → Forms w → t.At w v fp →
  Calls Tryd.prog 70 #[(.agg #[.int .i64 g, .int .i64 m, .int .i64 n]), v] w fun e w' => e = .returned (.int .i64 (cwG g m d t)) ∧ Below w.heap.size w w'

theorem cwG_lo {g m : Int} (hm : m < 1) (d : Nat) (t : Tm) : cwG g m d t = 0 := by
  have := cntD_pos d t
  rw [cwG, if_neg (by omega)]

set_option maxHeartbeats 1000000 in
theorem count_zero (g : Int) : GcC g 0 := by
  intro t v fp m n w hm1 hm2 hn1 hn hF hat
  obtain ⟨k, nm, num, ty, fr, lb, ts, rfl⟩ := t.shape
  have HR := hid (show cwG g m 0 (.mk k nm num ty fr lb ts) = 0 by simp [cwG, shpG])
  obtain ⟨k1, n1, a1, c1, k2, n2, a2, c2, a3, c3, f1, f2, f3, rfl, hnm, ht1, ht2, rfl, hs⟩ := hat.parts
  have hb0 : Below w.heap.size w ((w.alloc (Obj.cells #[.int .i64 g, .int .i64 m, .int .i64 n] 60)).alloc (Obj.cells #[.int .i64 k, .string nm, .int .i64 num, .int .i64 k1, .slice a1 n1 c1, .int .i64 k2, .slice a2 n2 c2, .int .i64 lb, .slice a3 ts.length c3] 34)) := ((Below.refl _ _).alloc (Nat.le_refl _) _).alloc (by simp) _
  have hn2 : n < 1 := by omega
  clear hat hn
  by_cases hm : m < 1
  · go_enter Tryd.func70, Tryd.ntmps70
    go_wp2_with fail
    go_ret
    exact ⟨ret_i HR.out.symm, hb0⟩
  · go_enter Tryd.func70, Tryd.ntmps70
    go_wp2_with fail
    go_ret
    exact ⟨ret_i HR.out.symm, hb0⟩

theorem allG_take {g : Int} {d : Nat} {ts : List Tm} {j : Nat} (h : j < ts.length) : (ts.take (j + 1)).all (shpG g d) = ((ts.take j).all (shpG g d) && shpG g d ts[j]) := by
  rw [take_succM h, List.all_append]
  simp

theorem cwG_stop {g : Int} {d : Nat} {ts : List Tm} {j : Nat} {m c : Int} (k : Int) (nm : ByteArray) (num : Int) (ty fr : Ty) (lb : Int) (hlk : j < ts.length) (hc : c = 1 + sumL (cntD d) (ts.take j)) (h0 : cwG g (m - c) d ts[j] = 0) : cwG g m (d + 1) (.mk k nm num ty fr lb ts) = 0 := by
  have hp := cntD_pos d ts[j]
  unfold cwG at h0
  have hno : ¬ (shpG g d ts[j] = true ∧ cntD d ts[j] ≤ m - c) := by
    intro hy
    rw [if_pos hy] at h0
    omega
  unfold cwG
  rw [if_neg]
  rintro ⟨hs, hcn⟩
  apply hno
  constructor
  · simp only [shpG, Bool.and_eq_true, List.all_eq_true] at hs
    exact hs.2 _ (List.getElem_mem hlk)
  · simp only [cntD] at hcn
    have h1 := sumL_take (f := cntD d) hlk
    have h2 := sumL_take_le (d := d) (ts := ts) (j + 1)
    omega

theorem cwG_some {g m r : Int} {d : Nat} {t : Tm} (h : cwG g m d t = r) (h0 : r ≠ 0) : shpG g d t = true ∧ cntD d t = r := by
  unfold cwG at h
  split at h
  · rename_i hc
    exact ⟨hc.1, h⟩
  · exact absurd h.symm h0

theorem cwG_range {g m : Int} {d : Nat} {t : Tm} : 0 ≤ cwG g m d t ∧ (cwG g m d t = 0 ∨ cwG g m d t ≤ m) := by
  unfold cwG
  have := cntD_pos d t
  split <;> omega

theorem cells3 {w : World} {M : Nat} {x0 x1 x2 : Value} {T : TypeId} (h : w.heap[M]? = some (Obj.cells #[x0, x1, x2] T)) : w.cell? ⟨M, 0, none⟩ = some x0 ∧ w.cell? ⟨M, 1, none⟩ = some x1 ∧ w.cell? ⟨M, 2, none⟩ = some x2 ∧ ∀ o, w.frozen? ⟨M, o, none⟩ = false :=
  ⟨by rw [cell_of_block h]; rfl, by rw [cell_of_block h]; rfl, by rw [cell_of_block h]; rfl, fun o => frozen_of_block h⟩

theorem cells9b {w : World} {M : Nat} {x0 x1 x2 x3 x4 x5 x6 x7 x8 : Value} {T : TypeId} (h : w.heap[M]? = some (Obj.cells #[x0, x1, x2, x3, x4, x5, x6, x7, x8] T)) : w.cell? ⟨M, 6, none⟩ = some x6 ∧ w.cell? ⟨M, 8, none⟩ = some x8 :=
  ⟨by rw [cell_of_block h]; rfl, by rw [cell_of_block h]; rfl⟩

set_option maxHeartbeats 4000000 in
set_option maxRecDepth 100000 in
theorem count_succ (g : Int) (hg : g = 13 ∨ g = 14) (d : Nat) (ih : GcC g d) : GcC g (d + 1) := by
  intro t v fp m n w hm1 hm2 hn1 hn hF hat
  have HIH := hid ih
  clear ih
  obtain ⟨k, nm, num, ty, fr, lb, ts, rfl⟩ := t.shape
  have hat0 := hat
  obtain ⟨k1, n1, a1, c1, k2, n2, a2, c2, a3, c3, f1, f2, f3, rfl, hnm, ht1, ht2, rfl, hs⟩ := hat.parts
  obtain ⟨a, cap, hss, hc, hmx, hget⟩ := hs.open
  cases hss
  have HG := hid hget
  clear hget hat ht1 ht2 hs
  have hb0 : Below w.heap.size w ((w.alloc (Obj.cells #[.int .i64 g, .int .i64 m, .int .i64 n] 60)).alloc (Obj.cells #[.int .i64 k, .string nm, .int .i64 num, .int .i64 k1, .slice a1 n1 c1, .int .i64 k2, .slice a2 n2 c2, .int .i64 lb, .slice a3 ts.length c3] 34)) := ((Below.refl _ _).alloc (Nat.le_refl _) _).alloc (by simp) _
  have hn2 : ¬ n < 1 := by omega
  have hn3 : 1 ≤ n := by omega
  by_cases hm : m < 1
  · have HR := hid (cwG_lo (g := g) hm (d + 1) (.mk k nm num ty fr lb ts))
    clear hn hat0
    go_enter Tryd.func70, Tryd.ntmps70
    go_wp2_with fail
    go_ret
    exact ⟨ret_i HR.out.symm, hb0⟩
  have HN := hid hn
  clear hn
  have HNV := hid (acceptsNode_any g m n hg k nm num ty fr lb ts _ _ _ (hF.below hb0) (hat0.below hb0))
  have HSH := hid (show shpG g (d + 1) (.mk k nm num ty fr lb ts) = (nodeG g k nm num ty fr lb ts.length && ts.all (shpG g d)) by simp only [shpG])
  generalize nodeG g k nm num ty fr lb ts.length = r at *
  have HB0 := hid hb0
  have HF := hid hF
  clear hat0 hb0 hF hg
  cases r
  · have HR := hid (show cwG g m (d + 1) (.mk k nm num ty fr lb ts) = 0 by unfold cwG; rw [HSH.out]; simp)
    go_enter Tryd.func70, Tryd.ntmps70
    go_wp2_with fail
    refine HNV.out.mono ?_
    rintro e w1 ⟨rfl, hb1⟩
    have hbw := HB0.out.trans (hb1.mono HB0.out.size)
    clear hb1
    go_wp2_with fail
    go_ret
    exact ⟨ret_i HR.out.symm, hbw⟩
  go_enter Tryd.func70, Tryd.ntmps70
  go_wp2_with fail
  refine HNV.out.mono ?_
  rintro e w1 ⟨rfl, hb1⟩
  have hbw := HB0.out.trans (hb1.mono HB0.out.size)
  obtain ⟨hG1, hT1⟩ := gbox hb1
  obtain ⟨q0, q1, q2, qf⟩ := cells3 hG1
  obtain ⟨z6, z8⟩ := cells9b hT1
  have hlt1 := lt_of_block hG1
  have hlt2 := lt_of_block hT1
  have HG1 := hid hG1
  have HT1 := hid hT1
  have HBW := hid hbw
  clear hb1 hG1 hT1 hbw
  go_wp2_with fail
  clear q0 q1 q2 qf z6 z8
  go_loopw [5, 34] (fun l i wr => ∃ (j : Nat), j ≤ ts.length ∧ i = .int .i64 j ∧ l = .int .i64 (1 + sumL (cntD d) (ts.take j)) ∧ 1 + sumL (cntD d) (ts.take j) ≤ m ∧ Hid ((ts.take j).all (shpG g d) = true) ∧ Hid (wr.heap[w.heap.size]? = some (Obj.cells #[.int .i64 g, .int .i64 (m - (1 + sumL (cntD d) (ts.take j))), .int .i64 (n - 1)] 60)) ∧ Hid (wr.heap[w.heap.size + 1]? = some (Obj.cells #[.int .i64 k, .string nm, .int .i64 num, .int .i64 k1, .slice a1 n1 c1, .int .i64 k2, .slice a2 n2 c2, .int .i64 lb, .slice a3 ts.length c3] 34)) ∧ Below w.heap.size w wr) (fun _ i _ => ts.length - (intOf i).toNat)
  case atStart =>
    refine ⟨0, Nat.zero_le _, rfl, by simp [sumL], by simp [sumL]; omega, hid rfl, hid ?_, hid ?_, (HBW.out.setCell (p := ⟨w.heap.size, 1, none⟩) (Nat.le_refl _) _).setCell (p := ⟨w.heap.size, 2, none⟩) (Nat.le_refl _) _⟩
    · rw [heap_setCell_at (heap_setCell_at HG1.out _) _]
      simp [sumL]
    · rw [Below.heap_setCell _ _ _ _ (by simp), Below.heap_setCell _ _ _ _ (by simp)]
      exact HT1.out
  case round =>
    obtain ⟨j, hj, rfl, rfl, hle, hall, hgb, htb, hb⟩ := hrel
    obtain ⟨q0, q1, q2, qf⟩ := cells3 hgb.out
    obtain ⟨z6, z8⟩ := cells9b htb.out
    have hlo := sumL_nonneg d (ts.take j)
    have hltA := lt_of_block hgb.out
    have hltB := lt_of_block htb.out
    by_cases hlk : j < ts.length
    · obtain ⟨b, o, u0, u1, u2, u3, u4, u5, u6, u7, u8, u9, u10, u11, u12, u13, u14, g1, rfl, hblt, e0, e1, e2, e3, e4, e5, e6, e7, e8, hat, hf⟩ := HG.out j hlk
      replace e0 := cell_keep e0 hb
      replace e1 := cell_keep e1 hb
      replace e2 := cell_keep e2 hb
      replace e3 := cell_keep e3 hb
      replace e4 := cell_keep e4 hb
      replace e5 := cell_keep e5 hb
      replace e6 := cell_keep e6 hb
      replace e7 := cell_keep e7 hb
      replace e8 := cell_keep e8 hb
      have HST := hid (sumL_take (f := cntD d) hlk)
      have HAT := hid (allG_take (g := g) (d := d) hlk)
      generalize hsum : sumL (cntD d) (ts.take j) = sm at *
      have HSM := hid hsum
      clear hsum
      generalize hr : cwG g (m - (1 + sm)) d ts[j] = r
      have HR := hid hr
      have hrb : 0 ≤ r ∧ r ≤ m - (1 + sm) := by
        have h := cwG_range (g := g) (m := m - (1 + sm)) (d := d) (t := ts[j])
        rw [hr] at h
        omega
      obtain ⟨hr0, hr1⟩ := hrb
      clear hr
      go_wp2_with fail
      refine (HIH.out _ _ _ (m - (1 + sm)) (n - 1) _ (by omega) (by omega) (by omega) (by have := HN.out; omega) ((HF.out.below hb).below ?_) (hat.below (below_trans hb ?_))).mono ?_
      · exact (Below.refl _ _).alloc (Nat.le_refl _) _
      · exact (Below.refl _ _).alloc (Nat.le_refl _) _
      rintro e w2 ⟨rfl, hb2⟩
      rw [HR.out]
      have hbk := alloc1 hb2
      have hbb := below_trans hb hbk
      have HGB2 := hid ((hbk.block _ (lt_of_block hgb.out)).trans hgb.out)
      have HTB2 := hid ((hbk.block _ (lt_of_block htb.out)).trans htb.out)
      clear hb hb2 hat e0 e1 e2 e3 e4 e5 e6 e7 e8 q0 q1 q2 qf z6 z8 hbk
      obtain ⟨q0, q1, q2, qf⟩ := cells3 HGB2.out
      have hltC := lt_of_block HGB2.out
      by_cases h0 : r = 0
      · subst h0
        have HC := hid (cwG_stop (g := g) (m := m) (c := 1 + sm) k nm num ty fr lb hlk (by rw [HSM.out]) HR.out)
        go_wp2_with fail
        go_ret
        exact ⟨ret_i HC.out.symm, hbb⟩
      · have h1 : (r == 0) = false := by simpa using h0
        have HX := hid (cwG_some HR.out h0)
        go_wp2_with fail
        go_roundw
        case rel =>
          refine ⟨j + 1, by omega, by go_num, by rw [HST.out, HX.out.2, ← Int.add_assoc], by rw [HST.out, HX.out.2]; omega, hid (by rw [HAT.out, hall.out, HX.out.1]; rfl), hid ?_, hid ?_, hbb.setCell (p := ⟨w.heap.size, 1, none⟩) (Nat.le_refl _) _⟩
          · rw [heap_setCell_at HGB2.out _, HST.out, HX.out.2]
            simp
            omega
          · rw [Below.heap_setCell _ _ _ _ (by simp)]
            exact HTB2.out
        case measure => simp [intOf]; omega
    · go_wp2_with fail
      go_ret
      exact ⟨ret_i (by
        have hz : ts.take j = ts := List.take_of_length_le (by omega)
        have hal := hall.out
        rw [hz] at hle hal ⊢
        unfold cwG
        rw [HSH.out, hal, if_pos]
        · simp only [cntD]
        · exact ⟨rfl, by simp only [cntD]; exact hle⟩), hb⟩

theorem count_any (g : Int) (hg : g = 13 ∨ g = 14) : ∀ d : Nat, GcC g d
  | 0 => count_zero g
  | d + 1 => count_succ g hg d (count_any g hg d)

end Go.Proofs.YtjpmlmdbldcbjaaDoor

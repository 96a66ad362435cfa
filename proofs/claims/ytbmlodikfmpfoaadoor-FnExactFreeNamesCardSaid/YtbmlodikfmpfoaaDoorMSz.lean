/- The laws' own helper szTerm: the number of bytes and nodes that may still come. -/
import Derived.Test.YtbmlodikfmpfoaaDoorTmB
import Derived.Test.YtbmlodikfmpfoaaDoorSz
namespace Go.Proofs.YtbmlodikfmpfoaaDoor
open Go.RowKit

def szM (n : Nat) (left : Int) : Int := if (n : Int) ≤ left then left - n else -1

theorem szT_M (t : Ty) (left : Int) (h : 0 ≤ left) : szT t left = szM t.cnt left := by
  unfold szM
  by_cases hc : (t.cnt : Int) ≤ left
  · rw [if_pos hc, (szT_eq t left h).1 hc]
  · rw [if_neg hc, (szT_eq t left h).2 (by omega)]

/-- The cells of a struct of nine that has just been boxed. -/
theorem box9 {w wr : World} {x0 x1 x2 x3 x4 x5 x6 x7 x8 : Value} {T : TypeId} (h : Below (w.alloc (Obj.cells #[x0, x1, x2, x3, x4, x5, x6, x7, x8] T)).heap.size (w.alloc (Obj.cells #[x0, x1, x2, x3, x4, x5, x6, x7, x8] T)) wr) :
    wr.cell? ⟨w.heap.size, 0, none⟩ = some x0 ∧ wr.cell? ⟨w.heap.size, 1, none⟩ = some x1 ∧ wr.cell? ⟨w.heap.size, 2, none⟩ = some x2 ∧ wr.cell? ⟨w.heap.size, 3, none⟩ = some x3 ∧ wr.cell? ⟨w.heap.size, 4, none⟩ = some x4 ∧
      wr.cell? ⟨w.heap.size, 5, none⟩ = some x5 ∧ wr.cell? ⟨w.heap.size, 6, none⟩ = some x6 ∧ wr.cell? ⟨w.heap.size, 7, none⟩ = some x7 ∧ wr.cell? ⟨w.heap.size, 8, none⟩ = some x8 := by
  have hb := (h.block w.heap.size (by simp)).trans (alloc_new w _)
  simp only [cell_of_block hb]
  exact ⟨rfl, rfl, rfl, rfl, rfl, rfl, rfl, rfl, rfl⟩

def SzMC (t : Tm) : Prop := ∀ (v : Value) (fp : List Nat) (left : Int) (w : World), 0 ≤ left → left ≤ 1048576 → t.At w v fp →
  Calls Tryd.prog 13 #[v, .int .i64 left] w fun e w' => e = .returned (.int .i64 (szM t.sz left)) ∧ Below w.heap.size w w'

def SzMSC (ts : List Tm) : Prop := ∀ (s : Value) (fp : List Nat) (left : Int) (w : World), 0 ≤ left → left ≤ 1048576 → SmAt w ts s fp →
  Calls Tryd.prog 52 #[s, .int .i64 left] w fun e w' => e = .returned (.int .i64 (szM (ts.length + szML ts) left)) ∧ Below w.heap.size w w'

set_option maxHeartbeats 1000000 in
theorem szTerm_of (k : Int) (nm : ByteArray) (num : Int) (ty fr : Ty) (lb : Int) (ts : List Tm) (ih : SzMSC ts) : SzMC (.mk k nm num ty fr lb ts) := by
  intro v fp left w h0 h1 hat
  obtain ⟨k1, n1, a1, c1, k2, n2, a2, c2, a3, c3, f1, f2, f3, rfl, hnm, ht1, ht2, rfl, hs⟩ := hat.parts
  have HIH := hid ih
  clear ih hat
  have hbx : Below w.heap.size w (w.alloc (Obj.cells #[.int .i64 k, .string nm, .int .i64 num, .int .i64 k1, .slice a1 n1 c1, .int .i64 k2, .slice a2 n2 c2, .int .i64 lb, .slice a3 ts.length c3] 27)) := (Below.refl _ _).alloc (Nat.le_refl _) _
  have HSZ := hid (show (Tm.mk k nm num ty fr lb ts).sz = nm.size + ty.cnt + fr.cnt + (ts.length + szML ts) by simp only [Tm.sz])
  by_cases hl1 : left - (nm.size : Int) < 0
  · have HR := hid (show szM (Tm.mk k nm num ty fr lb ts).sz left = -1 by rw [HSZ.out, szM, if_neg (by omega)])
    go_enter Tryd.func13, Tryd.ntmps13
    go_wp2_with fail
    go_ret
    exact ⟨ret_i HR.out.symm, hbx⟩
  by_cases hl2 : (ty.cnt : Int) ≤ left - (nm.size : Int)
  case neg =>
    have HR := hid (show szM (Tm.mk k nm num ty fr lb ts).sz left = -1 by rw [HSZ.out, szM, if_neg (by omega)])
    go_enter Tryd.func13, Tryd.ntmps13
    go_wp2_with fail
    refine (szType_none ty _ _ _ _ (by omega) (by omega) (ht1.below hbx) (by omega)).mono ?_
    rintro e w1 ⟨rfl, hb⟩
    go_wp2_with fail
    go_ret
    exact ⟨ret_i HR.out.symm, alloc1 hb⟩
  by_cases hl3 : (fr.cnt : Int) ≤ left - (nm.size : Int) - (ty.cnt : Int)
  case neg =>
    have HR := hid (show szM (Tm.mk k nm num ty fr lb ts).sz left = -1 by rw [HSZ.out, szM, if_neg (by omega)])
    go_enter Tryd.func13, Tryd.ntmps13
    go_wp2_with fail
    refine (szType_some ty _ _ _ _ (by omega) (by omega) (ht1.below hbx) (by omega)).mono ?_
    rintro e w1 ⟨rfl, hb⟩
    have hb1 := below_trans hbx hb
    have ht2' := ht2.below hb1
    obtain ⟨y0, y1, y2, y3, y4, y5, y6, y7, y8⟩ := box9 hb
    go_wp2_with fail
    refine (szType_none fr _ _ _ _ (by omega) (by omega) ht2' (by omega)).mono ?_
    rintro e w2 ⟨rfl, hb2⟩
    go_wp2_with fail
    go_ret
    exact ⟨ret_i HR.out.symm, below_trans hb1 hb2⟩
  have hl4 : (0 : Int) ≤ left - (nm.size : Int) - (ty.cnt : Int) - (fr.cnt : Int) := by omega
  generalize hr : szM (ts.length + szML ts) (left - (nm.size : Int) - (ty.cnt : Int) - (fr.cnt : Int)) = r
  have hr0 : -1 ≤ r ∧ r ≤ 1048576 := by rw [← hr, szM]; split <;> omega
  have HR := hid (show szM (Tm.mk k nm num ty fr lb ts).sz left = r by
    rw [← hr, HSZ.out]; unfold szM
    split <;> split <;> omega)
  have Hr := hid hr
  clear hr
  go_enter Tryd.func13, Tryd.ntmps13
  go_wp2_with fail
  refine (szType_some ty _ _ _ _ (by omega) (by omega) (ht1.below hbx) (by omega)).mono ?_
  rintro e w1 ⟨rfl, hb⟩
  have hb1 := below_trans hbx hb
  have ht2' := ht2.below hb1
  obtain ⟨y0, y1, y2, y3, y4, y5, y6, y7, y8⟩ := box9 hb
  go_wp2_with fail
  refine (szType_some fr _ _ _ _ (by omega) (by omega) ht2' (by omega)).mono ?_
  rintro e w2 ⟨rfl, hb2⟩
  have hb3 := below_trans hb1 hb2
  have z8 := cell_keep y8 hb2
  have hs' := hs.below hb3
  go_wp2_with fail
  refine (HIH.out _ _ _ _ hl4 (by omega) hs').mono ?_
  rintro e w3 ⟨rfl, hb4⟩
  rw [Hr.out]
  have hb5 := below_trans hb3 hb4
  by_cases hneg : r < 0
  · have HR1 := hid (show r = -1 by omega)
    go_wp2_with fail
    go_ret
    exact ⟨ret_i (by rw [HR.out, HR1.out]), hb5⟩
  · go_wp2_with fail
    go_ret
    exact ⟨ret_i HR.out.symm, hb5⟩

theorem szML_drop {ts : List Tm} {k : Nat} (h : k < ts.length) : szML (ts.drop k) = ts[k].sz + szML (ts.drop (k + 1)) := by
  rw [List.drop_eq_getElem_cons h, szML]

theorem szM_nil {lv : Int} (h : 0 ≤ lv) : szM (szML []) lv = lv := by
  have e : szML [] = 0 := by simp only [szML]
  rw [e]
  unfold szM
  split <;> omega

theorem szM_neg {ts : List Tm} {k c : Nat} {lv r : Int} (hr : szM c lv = r) (hd : szML (ts.drop k) = c + szML (ts.drop (k + 1))) (hn : r < 0) : szM (szML (ts.drop k)) lv = -1 := by
  unfold szM at hr ⊢
  split at hr
  · omega
  · rw [if_neg (by omega)]

theorem szM_pos {ts : List Tm} {k c : Nat} {lv r : Int} (hr : szM c lv = r) (hd : szML (ts.drop k) = c + szML (ts.drop (k + 1))) (hn : ¬ r < 0) : szM (szML (ts.drop k)) lv = szM (szML (ts.drop (k + 1))) r := by
  unfold szM at hr ⊢
  split at hr
  · split <;> split <;> omega
  · omega

set_option maxHeartbeats 1000000 in
theorem szTermS_of (ts : List Tm) (ih : ∀ t ∈ ts, SzMC t) : SzMSC ts := by
  intro s fp left w h0 h1 hs
  have HIH := hid ih
  clear ih
  obtain ⟨a, cap, rfl, hc, hm, hget⟩ := hs.open
  have HG := hid hget
  clear hget hs
  by_cases hlt : left - (ts.length : Int) < 0
  · have HR := hid (show szM (ts.length + szML ts) left = -1 by rw [szM, if_neg (by omega)])
    go_enter Tryd.func52, Tryd.ntmps52
    go_wp2_with fail
    go_ret
    exact ⟨ret_i HR.out.symm, Below.refl _ _⟩
  · have HT := hid (show szM (ts.length + szML ts) left = szM (szML ts) (left - (ts.length : Int)) by unfold szM; split <;> split <;> omega)
    go_enter Tryd.func52, Tryd.ntmps52
    go_wp2_with fail
    go_loopw [1, 5] (fun l i wr => ∃ (k : Nat) (lv : Int), k ≤ ts.length ∧ i = .int .i64 k ∧ l = .int .i64 lv ∧ 0 ≤ lv ∧ lv ≤ left ∧ szM (szML (ts.drop k)) lv = szM (szML ts) (left - (ts.length : Int)) ∧ Below w.heap.size w wr)
      (fun _ i _ => ts.length - (intOf i).toNat)
    case atStart => exact ⟨0, _, Nat.zero_le _, rfl, rfl, by omega, by omega, rfl, Below.refl _ _⟩
    case round =>
      obtain ⟨k, lv, hk, rfl, rfl, hlv0, hlv1, hsz, hb⟩ := hrel
      have HSZ := hid hsz
      clear hsz
      by_cases hlk : k < ts.length
      · obtain ⟨b, o, q0, q1, q2, q3, q4, q5, q6, q7, q8, q9, q10, q11, q12, q13, q14, f1, rfl, hblt, c0, c1, c2, c3, c4, c5, c6, c7, c8, hat, hf⟩ := HG.out k hlk
        have d0 := cell_keep c0 hb
        have d1 := cell_keep c1 hb
        have d2 := cell_keep c2 hb
        have d3 := cell_keep c3 hb
        have d4 := cell_keep c4 hb
        have d5 := cell_keep c5 hb
        have d6 := cell_keep c6 hb
        have d7 := cell_keep c7 hb
        have d8 := cell_keep c8 hb
        clear c0 c1 c2 c3 c4 c5 c6 c7 c8
        have HST := hid (szML_drop hlk)
        generalize hr : szM ts[k].sz lv = r
        have hb0 : -1 ≤ r ∧ r ≤ lv := by rw [← hr, szM]; split <;> omega
        have HN := hid (szM_neg (ts := ts) hr HST.out)
        have HP := hid (szM_pos (ts := ts) hr HST.out)
        have Hr := hid hr
        clear hr
        go_wp2_with fail
        refine (HIH.out _ (List.getElem_mem hlk) _ _ lv _ hlv0 (by omega) (hat.below hb)).mono ?_
        rintro e w1 ⟨rfl, hb1⟩
        have hbb := below_trans hb hb1
        clear hb hb1 hat d0 d1 d2 d3 d4 d5 d6 d7 d8
        rw [Hr.out]
        by_cases hneg : r < 0
        · go_wp2_with fail
          go_ret
          exact ⟨ret_i (by rw [HT.out, ← HSZ.out, HN.out hneg]), hbb⟩
        · go_wp2_with fail
          go_roundw
          case rel => exact ⟨k + 1, r, by omega, by go_num, rfl, by omega, by omega, by rw [← HSZ.out, HP.out hneg], hbb⟩
          case measure => simp [intOf]; omega
      · go_wp2_with fail
        go_ret
        have hk' : k = ts.length := by omega
        exact ⟨ret_i (by rw [HT.out, ← HSZ.out, hk', List.drop_length, szM_nil hlv0]), hb⟩

/-- The helper's contracts, for every term. -/
theorem szTerm_any : ∀ t : Tm, SzMC t := Tm.ind fun k nm num ty fr lb ts ih => szTerm_of k nm num ty fr lb ts (szTermS_of ts ih)

end Go.Proofs.YtbmlodikfmpfoaaDoor

/- The laws' own helper szTerm: the number of bytes and nodes that may still come. The laws' own helper toTerm: a copy of a term in memory of its own. Names and the zero type: the program's and the specification's tests. The number of operands of a kind of terms: the specification's and the program's. The laws' own helper eqTerm at two readings of one term. A slice of terms that grows by append, one element a round. What a call that appends to a slice of the caller's leaves alone. -/
import Derived.Test.YtjpmlmdbldcbjaaDoorQPkA
namespace Go.Proofs.YtjpmlmdbldcbjaaDoor
open Go.RowKit

def szM (n : Nat) (left : Int) : Int := if (n : Int) ≤ left then left - n else -1

/-- The cells of a struct of nine that has just been boxed. -/
theorem box9 {w wr : World} {x0 x1 x2 x3 x4 x5 x6 x7 x8 : Value} {T : TypeId} (h : Below (w.alloc (Obj.cells #[x0, x1, x2, x3, x4, x5, x6, x7, x8] T)).heap.size (w.alloc (Obj.cells #[x0, x1, x2, x3, x4, x5, x6, x7, x8] T)) wr) :
    wr.cell? ⟨w.heap.size, 0, none⟩ = some x0 ∧ wr.cell? ⟨w.heap.size, 1, none⟩ = some x1 ∧ wr.cell? ⟨w.heap.size, 2, none⟩ = some x2 ∧ wr.cell? ⟨w.heap.size, 3, none⟩ = some x3 ∧ wr.cell? ⟨w.heap.size, 4, none⟩ = some x4 ∧
      wr.cell? ⟨w.heap.size, 5, none⟩ = some x5 ∧ wr.cell? ⟨w.heap.size, 6, none⟩ = some x6 ∧ wr.cell? ⟨w.heap.size, 7, none⟩ = some x7 ∧ wr.cell? ⟨w.heap.size, 8, none⟩ = some x8 := by
  have hb := (h.block w.heap.size (by simp)).trans (alloc_new w _)
  simp only [cell_of_block hb]
  exact ⟨rfl, rfl, rfl, rfl, rfl, rfl, rfl, rfl, rfl⟩

def SzMC (t : Tm) : Prop := ∀ (v : Value) (fp : List Nat) (left : Int) (w : World), 0 ≤ left → left ≤ 1048576 → t.At w v fp →
  Calls Tryd.prog 7 #[v, .int .i64 left] w fun e w' => e = .returned (.int .i64 (szM t.sz left)) ∧ Below w.heap.size w w'

def SzMSC (ts : List Tm) : Prop := ∀ (s : Value) (fp : List Nat) (left : Int) (w : World), 0 ≤ left → left ≤ 1048576 → SmAt w ts s fp →
  Calls Tryd.prog 21 #[s, .int .i64 left] w fun e w' => e = .returned (.int .i64 (szM (ts.length + szML ts) left)) ∧ Below w.heap.size w w'

set_option maxHeartbeats 1000000 in
theorem szTerm_of (k : Int) (nm : ByteArray) (num : Int) (ty fr : Ty) (lb : Int) (ts : List Tm) (ih : SzMSC ts) : SzMC (.mk k nm num ty fr lb ts) := by
  intro v fp left w h0 h1 hat
  obtain ⟨k1, n1, a1, c1, k2, n2, a2, c2, a3, c3, f1, f2, f3, rfl, hnm, ht1, ht2, rfl, hs⟩ := hat.parts
  have HIH := hid ih
  clear ih hat
  have hbx : Below w.heap.size w (w.alloc (Obj.cells #[.int .i64 k, .string nm, .int .i64 num, .int .i64 k1, .slice a1 n1 c1, .int .i64 k2, .slice a2 n2 c2, .int .i64 lb, .slice a3 ts.length c3] 27)) := (Below.refl _ _).alloc (Nat.le_refl _) _
  have HSZ := hid (show (Tm.mk k nm num ty fr lb ts).sz = nm.size + ty.cnt + fr.cnt + (ts.length + szML ts) by simp only [Tm.sz])
  by_cases hl1 : left - (nm.size : Int) < 0
  · have HR := hid (show szM (Tm.mk k nm num ty fr lb ts).sz left = -1 by rw [HSZ.out, szM, if_neg (by omega)])
    go_enter Tryd.func7, Tryd.ntmps7
    go_wp2_with fail
    go_ret
    exact ⟨ret_i HR.out.symm, hbx⟩
  by_cases hl2 : (ty.cnt : Int) ≤ left - (nm.size : Int)
  case neg =>
    have HR := hid (show szM (Tm.mk k nm num ty fr lb ts).sz left = -1 by rw [HSZ.out, szM, if_neg (by omega)])
    go_enter Tryd.func7, Tryd.ntmps7
    go_wp2_with fail
    refine (szType_none ty _ _ _ _ (by omega) (by omega) (ht1.below hbx) (by omega)).mono ?_
    rintro e w1 ⟨rfl, hb⟩
    go_wp2_with fail
    go_ret
    exact ⟨ret_i HR.out.symm, alloc1 hb⟩
  by_cases hl3 : (fr.cnt : Int) ≤ left - (nm.size : Int) - (ty.cnt : Int)
  case neg =>
    have HR := hid (show szM (Tm.mk k nm num ty fr lb ts).sz left = -1 by rw [HSZ.out, szM, if_neg (by omega)])
    go_enter Tryd.func7, Tryd.ntmps7
    go_wp2_with fail
    refine (szType_some ty _ _ _ _ (by omega) (by omega) (ht1.below hbx) (by omega)).mono ?_
    rintro e w1 ⟨rfl, hb⟩
    have hb1 := below_trans hbx hb
    have ht2' := ht2.below hb1
    obtain ⟨y0, y1, y2, y3, y4, y5, y6, y7, y8⟩ := box9 hb
    go_wp2_with fail
    refine (szType_none fr _ _ _ _ (by omega) (by omega) ht2' (by omega)).mono ?_
    rintro e w2 ⟨rfl, hb2⟩
    go_wp2_with fail
    go_ret
    exact ⟨ret_i HR.out.symm, below_trans hb1 hb2⟩
  have hl4 : (0 : Int) ≤ left - (nm.size : Int) - (ty.cnt : Int) - (fr.cnt : Int) := by omega
  generalize hr : szM (ts.length + szML ts) (left - (nm.size : Int) - (ty.cnt : Int) - (fr.cnt : Int)) = r
  have hr0 : -1 ≤ r ∧ r ≤ 1048576 := by rw [← hr, szM]; split <;> omega
  have HR := hid (show szM (Tm.mk k nm num ty fr lb ts).sz left = r by
    rw [← hr, HSZ.out]; unfold szM
    split <;> split <;> omega)
  have Hr := hid hr
  clear hr
  go_enter Tryd.func7, Tryd.ntmps7
  go_wp2_with fail
  refine (szType_some ty _ _ _ _ (by omega) (by omega) (ht1.below hbx) (by omega)).mono ?_
  rintro e w1 ⟨rfl, hb⟩
  have hb1 := below_trans hbx hb
  have ht2' := ht2.below hb1
  obtain ⟨y0, y1, y2, y3, y4, y5, y6, y7, y8⟩ := box9 hb
  go_wp2_with fail
  refine (szType_some fr _ _ _ _ (by omega) (by omega) ht2' (by omega)).mono ?_
  rintro e w2 ⟨rfl, hb2⟩
  have hb3 := below_trans hb1 hb2
  have z8 := cell_keep y8 hb2
  have hs' := hs.below hb3
  go_wp2_with fail
  refine (HIH.out _ _ _ _ hl4 (by omega) hs').mono ?_
  rintro e w3 ⟨rfl, hb4⟩
  rw [Hr.out]
  have hb5 := below_trans hb3 hb4
  by_cases hneg : r < 0
  · have HR1 := hid (show r = -1 by omega)
    go_wp2_with fail
    go_ret
    exact ⟨ret_i (by rw [HR.out, HR1.out]), hb5⟩
  · go_wp2_with fail
    go_ret
    exact ⟨ret_i HR.out.symm, hb5⟩

theorem szML_drop {ts : List Tm} {k : Nat} (h : k < ts.length) : szML (ts.drop k) = ts[k].sz + szML (ts.drop (k + 1)) := by
  rw [List.drop_eq_getElem_cons h, szML]

theorem szM_nil {lv : Int} (h : 0 ≤ lv) : szM (szML []) lv = lv := by
  have e : szML [] = 0 := by simp only [szML]
  rw [e]
  unfold szM
  split <;> omega

theorem szM_neg {ts : List Tm} {k c : Nat} {lv r : Int} (hr : szM c lv = r) (hd : szML (ts.drop k) = c + szML (ts.drop (k + 1))) (hn : r < 0) : szM (szML (ts.drop k)) lv = -1 := by
  unfold szM at hr ⊢
  split at hr
  · omega
  · rw [if_neg (by omega)]

theorem szM_pos {ts : List Tm} {k c : Nat} {lv r : Int} (hr : szM c lv = r) (hd : szML (ts.drop k) = c + szML (ts.drop (k + 1))) (hn : ¬ r < 0) : szM (szML (ts.drop k)) lv = szM (szML (ts.drop (k + 1))) r := by
  unfold szM at hr ⊢
  split at hr
  · split <;> split <;> omega
  · omega

set_option maxHeartbeats 1000000 in
theorem szTermS_of (ts : List Tm) (ih : ∀ t ∈ ts, SzMC t) : SzMSC ts := by
  intro s fp left w h0 h1 hs
  have HIH := hid ih
  clear ih
  obtain ⟨a, cap, rfl, hc, hm, hget⟩ := hs.open
  have HG := hid hget
  clear hget hs
  by_cases hlt : left - (ts.length : Int) < 0
  · have HR := hid (show szM (ts.length + szML ts) left = -1 by rw [szM, if_neg (by omega)])
    go_enter Tryd.func21, Tryd.ntmps21
    go_wp2_with fail
    go_ret
    exact ⟨ret_i HR.out.symm, Below.refl _ _⟩
  · have HT := hid (show szM (ts.length + szML ts) left = szM (szML ts) (left - (ts.length : Int)) by unfold szM; split <;> split <;> omega)
    go_enter Tryd.func21, Tryd.ntmps21
    go_wp2_with fail
    go_loopw [1, 5] (fun l i wr => ∃ (k : Nat) (lv : Int), k ≤ ts.length ∧ i = .int .i64 k ∧ l = .int .i64 lv ∧ 0 ≤ lv ∧ lv ≤ left ∧ szM (szML (ts.drop k)) lv = szM (szML ts) (left - (ts.length : Int)) ∧ Below w.heap.size w wr)
      (fun _ i _ => ts.length - (intOf i).toNat)
    case atStart => exact ⟨0, _, Nat.zero_le _, rfl, rfl, by omega, by omega, rfl, Below.refl _ _⟩
    case round =>
      obtain ⟨k, lv, hk, rfl, rfl, hlv0, hlv1, hsz, hb⟩ := hrel
      have HSZ := hid hsz
      clear hsz
      by_cases hlk : k < ts.length
      · obtain ⟨b, o, q0, q1, q2, q3, q4, q5, q6, q7, q8, q9, q10, q11, q12, q13, q14, f1, rfl, hblt, c0, c1, c2, c3, c4, c5, c6, c7, c8, hat, hf⟩ := HG.out k hlk
        have d0 := cell_keep c0 hb
        have d1 := cell_keep c1 hb
        have d2 := cell_keep c2 hb
        have d3 := cell_keep c3 hb
        have d4 := cell_keep c4 hb
        have d5 := cell_keep c5 hb
        have d6 := cell_keep c6 hb
        have d7 := cell_keep c7 hb
        have d8 := cell_keep c8 hb
        clear c0 c1 c2 c3 c4 c5 c6 c7 c8
        have HST := hid (szML_drop hlk)
        generalize hr : szM ts[k].sz lv = r
        have hb0 : -1 ≤ r ∧ r ≤ lv := by rw [← hr, szM]; split <;> omega
        have HN := hid (szM_neg (ts := ts) hr HST.out)
        have HP := hid (szM_pos (ts := ts) hr HST.out)
        have Hr := hid hr
        clear hr
        go_wp2_with fail
        refine (HIH.out _ (List.getElem_mem hlk) _ _ lv _ hlv0 (by omega) (hat.below hb)).mono ?_
        rintro e w1 ⟨rfl, hb1⟩
        have hbb := below_trans hb hb1
        clear hb hb1 hat d0 d1 d2 d3 d4 d5 d6 d7 d8
        rw [Hr.out]
        by_cases hneg : r < 0
        · go_wp2_with fail
          go_ret
          exact ⟨ret_i (by rw [HT.out, ← HSZ.out, HN.out hneg]), hbb⟩
        · go_wp2_with fail
          go_roundw
          case rel => exact ⟨k + 1, r, by omega, by go_num, rfl, by omega, by omega, by rw [← HSZ.out, HP.out hneg], hbb⟩
          case measure => simp [intOf]; omega
      · go_wp2_with fail
        go_ret
        have hk' : k = ts.length := by omega
        exact ⟨ret_i (by rw [HT.out, ← HSZ.out, hk', List.drop_length, szM_nil hlv0]), hb⟩

/-- The helper's contracts, for every term. -/
theorem szTerm_any : ∀ t : Tm, SzMC t := Tm.ind fun k nm num ty fr lb ts ih => szTerm_of k nm num ty fr lb ts (szTermS_of ts ih)

end Go.Proofs.YtjpmlmdbldcbjaaDoor

namespace Go.Proofs.YtjpmlmdbldcbjaaDoor
open Go.RowKit

theorem Tryd.underTms : Tryd.prog.underlying 32 = some (.slice 34) := by kernel_rfl
theorem Tryd.infoTm : (Tryd.prog.info? 34).map (fun i => (i.zero, i.size, i.bytes)) = some (some (.agg #[.int .i64 0, .string ByteArray.empty, .int .i64 0, .int .i64 0, .slice none 0 0, .int .i64 0, .slice none 0 0, .int .i64 0, .slice none 0 0]), 9, 128) := by kernel_rfl

/-- Three blocks that have just been made. -/
theorem three_out {w wr : World} {o1 o2 o3 : Obj} (h : Below (((w.alloc o1).alloc o2).alloc o3).heap.size (((w.alloc o1).alloc o2).alloc o3) wr) :
    wr.heap[w.heap.size]? = some o1 ∧ wr.heap[w.heap.size + 1]? = some o2 ∧ wr.heap[w.heap.size + 1 + 1]? = some o3 := by
  refine ⟨?_, ?_, ?_⟩
  · rw [h.block _ (by simp; omega), Below.heap_alloc _ _ _ (by simp; omega), Below.heap_alloc _ _ _ (by simp)]
    exact alloc_new _ _
  · rw [h.block _ (by simp), Below.heap_alloc _ _ _ (by simp)]
    have := alloc_new (w.alloc o1) o2
    simpa using this
  · rw [h.block _ (by simp)]
    have := alloc_new ((w.alloc o1).alloc o2) o3
    simpa using this

theorem cells9 {w : World} {M : Nat} {x0 x1 x2 x3 x4 x5 x6 x7 x8 : Value} {T : TypeId} {fz : Nat × Nat} (h : w.heap[M]? = some (.cells #[x0, x1, x2, x3, x4, x5, x6, x7, x8] T fz)) :
    w.cell? ⟨M, 0, none⟩ = some x0 ∧ w.cell? ⟨M, 1, none⟩ = some x1 ∧ w.cell? ⟨M, 2, none⟩ = some x2 ∧ w.cell? ⟨M, 3, none⟩ = some x3 ∧ w.cell? ⟨M, 4, none⟩ = some x4 ∧ w.cell? ⟨M, 5, none⟩ = some x5 ∧ w.cell? ⟨M, 6, none⟩ = some x6 ∧ w.cell? ⟨M, 7, none⟩ = some x7 ∧ w.cell? ⟨M, 8, none⟩ = some x8 := by
  simp only [cell_of_block h]
  exact ⟨rfl, rfl, rfl, rfl, rfl, rfl, rfl, rfl, rfl⟩

theorem blk {w w' : World} {M : Nat} {o : Obj} (h : w.heap[M]? = some o) (hb : Below w.heap.size w w') : w'.heap[M]? = some o := (hb.block _ (lt_of_block h)).trans h

theorem blk_ne {w : World} {M : Nat} {o : Obj} {a : Addr} {u : Value} (h : w.heap[M]? = some o) (hn : M ≠ a.block) : (w.setCell a u).heap[M]? = some o := (Below.heap_setCell w a u M hn).trans h

def ToMC (t : Tm) : Prop := ∀ (v : Value) (fp : List Nat) (w : World), t.At w v fp → t.sz ≤ 1048576 → Calls Tryd.prog 9 #[v] w (MadeM w t)

def ToMSC (ts : List Tm) : Prop := ∀ (s : Value) (fp : List Nat) (w : World), SmAt w ts s fp → ts.length + szML ts ≤ 1048576 → Calls Tryd.prog 25 #[s] w (MadeMS w ts)

set_option maxHeartbeats 2000000 in
theorem toTerm_of (k : Int) (nm : ByteArray) (num : Int) (ty fr : Ty) (lb : Int) (ts : List Tm) (ih : ToMSC ts) : ToMC (.mk k nm num ty fr lb ts) := by
  intro v fp w hat hn
  obtain ⟨k1, n1, a1, c1, k2, n2, a2, c2, a3, c3, f1, f2, f3, rfl, hnm, ht1, ht2, rfl, hs⟩ := hat.parts
  have HIH := hid ih
  clear ih hat
  simp only [Tm.sz] at hn
  have hn1 : ty.cnt ≤ 1048576 := by omega
  have hn2 : fr.cnt ≤ 1048576 := by omega
  have hn3 : ts.length + szML ts ≤ 1048576 := by omega
  clear hn
  have hb0 : Below w.heap.size w (((w.alloc (Obj.cells #[.int .i64 k, .string nm, .int .i64 num, .int .i64 k1, .slice a1 n1 c1, .int .i64 k2, .slice a2 n2 c2, .int .i64 lb, .slice a3 ts.length c3] 27)).alloc
      (Obj.cells #[.int .i64 0, .string ByteArray.empty, .int .i64 0, .int .i64 0, .slice none 0 0, .int .i64 0, .slice none 0 0, .int .i64 0, .slice none 0 0] 34)).alloc
      (Obj.cells #[.int .i64 k, .string nm, .int .i64 num, .int .i64 0, .slice none 0 0, .int .i64 0, .slice none 0 0, .int .i64 0, .slice none 0 0] 34)) :=
    ((((Below.refl _ _).alloc (Nat.le_refl _) _).alloc (by simp) _).alloc (by simp; omega) _)
  go_enter Tryd.func9, Tryd.ntmps9
  go_wp2_with fail
  refine (toType_any ty _ _ _ (ht1.below hb0) hn1).mono ?_
  rintro e w1 ⟨v1, g1, rfl, hv1, hg1, hb1⟩
  obtain ⟨j1, m1, p1, d1, rfl⟩ := hv1.agg
  obtain ⟨hB, hZ, hO⟩ := three_out hb1
  obtain ⟨x0, x1, x2, x3, x4, x5, x6, x7, x8⟩ := cells9 hB
  obtain ⟨y0, y1, y2, y3, y4, y5, y6, y7, y8⟩ := cells9 hO
  have yz := fun o => frozen_of_block (o := o) hO
  have hs0 : (((w.alloc (Obj.cells #[.int .i64 k, .string nm, .int .i64 num, .int .i64 k1, .slice a1 n1 c1, .int .i64 k2, .slice a2 n2 c2, .int .i64 lb, .slice a3 ts.length c3] 27)).alloc
      (Obj.cells #[.int .i64 0, .string ByteArray.empty, .int .i64 0, .int .i64 0, .slice none 0 0, .int .i64 0, .slice none 0 0, .int .i64 0, .slice none 0 0] 34)).alloc
      (Obj.cells #[.int .i64 k, .string nm, .int .i64 num, .int .i64 0, .slice none 0 0, .int .i64 0, .slice none 0 0, .int .i64 0, .slice none 0 0] 34)).heap.size = w.heap.size + 1 + 1 + 1 := by simp
  have b1 := below_trans hb0 hb1
  rw [hs0] at hg1
  clear hs0
  clear hb1 hb0
  go_wp2_with fail
  have hM : w.heap.size + 1 + 1 < w1.heap.size := lt_of_block hO
  have b2 := (b1.setCell (p := ⟨w.heap.size + 1 + 1, 3, none⟩) (by simp; omega) (.int .i64 j1)).setCell (p := ⟨w.heap.size + 1 + 1, 4, none⟩) (by simp; omega) (.slice p1 m1 d1)
  refine (toType_any fr _ _ _ (ht2.below b2) hn2).mono ?_
  rintro e w2 ⟨v2, g2, rfl, hv2, hg2, hb2⟩
  obtain ⟨j2, m2, p2, d2, rfl⟩ := hv2.agg
  have ab1 := ((Above.refl (w.heap.size + 1 + 1 + 1) w1).setCell (p := ⟨w.heap.size + 1 + 1, 3, none⟩) (Nat.lt_succ_self _) (.int .i64 j1)).setCell (p := ⟨w.heap.size + 1 + 1, 4, none⟩) (Nat.lt_succ_self _) (.slice p1 m1 d1)
  have hv1' := (hv1.above ab1 hg1.ge).below hb2
  have F2 := Fresh.append (hg1.above ab1 (Nat.le_refl _)) hg2 (Nat.le_refl _) (by rw [size_setCell, size_setCell]; omega) hb2
  have hO2 : w2.heap[w.heap.size + 1 + 1]? = some (.cells #[.int .i64 k, .string nm, .int .i64 num, .int .i64 j1, .slice p1 m1 d1, .int .i64 0, .slice none 0 0, .int .i64 0, .slice none 0 0] 34 (0, 0)) :=
    blk (heap_setCell_at (heap_setCell_at hO _) _) hb2
  have hB2 := blk (blk_ne (a := ⟨w.heap.size + 1 + 1, 4, none⟩) (u := .slice p1 m1 d1) (blk_ne (a := ⟨w.heap.size + 1 + 1, 3, none⟩) (u := .int .i64 j1) hB (by simp; omega)) (by simp; omega)) hb2
  have hZ2 := blk (blk_ne (a := ⟨w.heap.size + 1 + 1, 4, none⟩) (u := .slice p1 m1 d1) (blk_ne (a := ⟨w.heap.size + 1 + 1, 3, none⟩) (u := .int .i64 j1) hZ (by simp)) (by simp)) hb2
  have b3 := below_trans b2 hb2
  clear x0 x1 x2 x3 x4 x5 x6 x7 x8 y0 y1 y2 y3 y4 y5 y6 y7 y8 yz hB hZ hO hv1 hg1 hg2 b1 b2 hb2 ab1
  obtain ⟨x0, x1, x2, x3, x4, x5, x6, x7, x8⟩ := cells9 hB2
  obtain ⟨y0, y1, y2, y3, y4, y5, y6, y7, y8⟩ := cells9 hO2
  have yz := fun o => frozen_of_block (o := o) hO2
  have hM2 : w.heap.size + 1 + 1 < w2.heap.size := lt_of_block hO2
  go_wp2_with fail
  have b4 := ((b3.setCell (p := ⟨w.heap.size + 1 + 1, 5, none⟩) (by simp; omega) (.int .i64 j2)).setCell (p := ⟨w.heap.size + 1 + 1, 6, none⟩) (by simp; omega) (.slice p2 m2 d2)).setCell (p := ⟨w.heap.size + 1 + 1, 7, none⟩) (by simp; omega) (.int .i64 lb)
  refine (HIH.out _ _ _ (hs.below b4) hn3).mono ?_
  rintro e w3 ⟨s3, g3, rfl, hv3, hg3, hb3⟩
  obtain ⟨p3, d3, rfl⟩ := hv3.shape
  have ab2 := (((Above.refl (w.heap.size + 1 + 1 + 1) w2).setCell (p := ⟨w.heap.size + 1 + 1, 5, none⟩) (Nat.lt_succ_self _) (.int .i64 j2)).setCell (p := ⟨w.heap.size + 1 + 1, 6, none⟩) (Nat.lt_succ_self _) (.slice p2 m2 d2)).setCell (p := ⟨w.heap.size + 1 + 1, 7, none⟩) (Nat.lt_succ_self _) (.int .i64 lb)
  have F2' := F2.above ab2 (Nat.le_refl _)
  have hv1'' := (hv1'.above ab2 (fun b hb => F2.ge b (by simp [hb]))).below hb3
  have hv2'' := (hv2.above ab2 (fun b hb => F2.ge b (by simp [hb]))).below hb3
  have F3 := Fresh.append F2' hg3 (Nat.le_refl _) (by rw [size_setCell, size_setCell, size_setCell]; omega) hb3
  have hO3 : w3.heap[w.heap.size + 1 + 1]? = some (.cells #[.int .i64 k, .string nm, .int .i64 num, .int .i64 j1, .slice p1 m1 d1, .int .i64 j2, .slice p2 m2 d2, .int .i64 lb, .slice none 0 0] 34 (0, 0)) :=
    blk (heap_setCell_at (heap_setCell_at (heap_setCell_at hO2 _) _) _) hb3
  have hZ3 := blk (blk_ne (a := ⟨w.heap.size + 1 + 1, 7, none⟩) (u := .int .i64 lb) (blk_ne (a := ⟨w.heap.size + 1 + 1, 6, none⟩) (u := .slice p2 m2 d2) (blk_ne (a := ⟨w.heap.size + 1 + 1, 5, none⟩) (u := .int .i64 j2) hZ2 (by simp)) (by simp)) (by simp)) hb3
  have b5 := below_trans b4 hb3
  clear x0 x1 x2 x3 x4 x5 x6 x7 x8 y0 y1 y2 y3 y4 y5 y6 y7 y8 yz hB2 hZ2 hO2 hv1' hv2 hg3 b3 b4 hb3 ab2 F2 F2' hM hM2
  obtain ⟨x0, x1, x2, x3, x4, x5, x6, x7, x8⟩ := cells9 hZ3
  obtain ⟨y0, y1, y2, y3, y4, y5, y6, y7, y8⟩ := cells9 hO3
  have xz := fun o => frozen_of_block (o := o) hZ3
  have yz := fun o => frozen_of_block (o := o) hO3
  have hM3 : w.heap.size + 1 + 1 < w3.heap.size := lt_of_block hO3
  have ab3 := Above.put (vs := [.int .i64 k, .string nm, .int .i64 num, .int .i64 j1, .slice p1 m1 d1, .int .i64 j2, .slice p2 m2 d2, .int .i64 lb, .slice p3 ts.length d3]) (o := 0) ((Above.refl (w.heap.size + 1 + 1 + 1) w3).setCell (p := ⟨w.heap.size + 1 + 1, 8, none⟩) (Nat.lt_succ_self _) (.slice p3 ts.length d3)) (b := w.heap.size + 1) (by omega)
  have b6 := below_put (vs := [.int .i64 k, .string nm, .int .i64 num, .int .i64 j1, .slice p1 m1 d1, .int .i64 j2, .slice p2 m2 d2, .int .i64 lb, .slice p3 ts.length d3]) (o := 0) (b5.setCell (p := ⟨w.heap.size + 1 + 1, 8, none⟩) (by simp; omega) (.slice p3 ts.length d3)) (b := w.heap.size + 1) (by omega)
  have q1 := hv1''.above ab3 (fun b hb => F3.ge b (by simp [hb]))
  have q2 := hv2''.above ab3 (fun b hb => F3.ge b (by simp [hb]))
  have q3 := hv3.above ab3 (fun b hb => F3.ge b (by simp [hb]))
  have F4 := F3.above ab3 (Nat.le_refl _)
  rw [List.append_assoc] at F4
  have hfin := Tm.at_mk (k := k) (num := num) (lb := lb) |>.2 ⟨_, _, _, _, _, g1, g2, g3, rfl, hnm, q1, q2, rfl, q3⟩
  clear hv1'' hv2'' hv3 F3 ab3 q1 q2 q3
  go_wp2_with fail
  exact bodyPost_ret (v := .agg #[.int .i64 k, .string nm, .int .i64 num, .int .i64 j1, .slice p1 m1 d1, .int .i64 j2, .slice p2 m2 d2, .int .i64 lb, .slice p3 ts.length d3]) (by simp [results, Tryd.results9, go_sem, x0, x1, x2, x3, x4, x5, x6, x7, x8]) rfl ⟨_, _, rfl, hfin, F4.mono (by omega), b6⟩

/-- The loop's relation behind k rounds: the new block and what its first k elements lead to. -/
def ToMInv (w : World) (ts : List Tm) (k : Nat) (wr : World) : Prop :=
  ∃ fp, BuiltM w.heap.size 34 ts.length (ts.take k) fp wr ∧ Below w.heap.size w wr

set_option maxHeartbeats 1000000 in
theorem toTermS_of (ts : List Tm) (ih : ∀ t ∈ ts, ToMC t) : ToMSC ts := by
  intro s fp w hs hn
  have HIH := hid ih
  clear ih
  obtain ⟨a, cap, rfl, hc, hm, hget⟩ := hs.open
  have HG := hid hget
  clear hget hs
  obtain ⟨Z, hZ, hmk⟩ : ∃ Z : Array Value, Z.size = ts.length * 9 ∧ ∀ w : World, (Instr.makeSlice 32 (.int .i64 (ts.length : Int)) (.int .i64 (ts.length : Int))).run Tryd.prog w = .ok (.slice (some ⟨w.heap.size, 0, none⟩) ts.length ts.length) (w.alloc (.cells Z 34)) := by
    obtain ⟨i0, hi, hz0, hz1, hz2⟩ := info_parts (P := Tryd.prog) (e := 34) Tryd.infoTm
    have r := fun w : World => run_make w _ _ i0 _ Tryd.underTms hi hz0 .i64 .i64 (ts.length : Int) (ts.length : Int) (by omega) (by omega) (by rw [hz2]; omega) (by omega)
    simp only [Int.toNat_natCast, hz1] at r
    exact ⟨_, size_madeCells _ _, r⟩
  have HZ := hid hZ
  have HN := hid hn
  clear hZ hn
  go_enter Tryd.func25, Tryd.ntmps25
  go_wp2_with fail
  go_loopw [4] (fun i wr => ∃ k : Nat, k ≤ ts.length ∧ i = .int .i64 k ∧ ToMInv w ts k wr) (fun i _ => ts.length - (intOf i).toNat)
  case atStart =>
    exact ⟨0, Nat.zero_le _, rfl, [], BuiltM.zero (C := Z) (alloc_new _ _) HZ.out, (Below.refl _ _).alloc (Nat.le_refl _) _⟩
  case round =>
    obtain ⟨k, hk, rfl, f0, hB, hb⟩ := hrel
    by_cases hlk : k < ts.length
    · obtain ⟨b, o, q0, q1, q2, q3, q4, q5, q6, q7, q8, q9, q10, q11, q12, q13, q14, f1, rfl, hblt, c0, c1, c2, c3, c4, c5, c6, c7, c8, hat, hf⟩ := HG.out k hlk
      have d0 := (hb.cell (p := ⟨b, o + k * 9, none⟩) hblt).trans c0
      have d1 := (hb.cell (p := ⟨b, o + k * 9 + 1, none⟩) hblt).trans c1
      have d2 := (hb.cell (p := ⟨b, o + k * 9 + 2, none⟩) hblt).trans c2
      have d3 := (hb.cell (p := ⟨b, o + k * 9 + 3, none⟩) hblt).trans c3
      have d4 := (hb.cell (p := ⟨b, o + k * 9 + 4, none⟩) hblt).trans c4
      have d5 := (hb.cell (p := ⟨b, o + k * 9 + 5, none⟩) hblt).trans c5
      have d6 := (hb.cell (p := ⟨b, o + k * 9 + 6, none⟩) hblt).trans c6
      have d7 := (hb.cell (p := ⟨b, o + k * 9 + 7, none⟩) hblt).trans c7
      have d8 := (hb.cell (p := ⟨b, o + k * 9 + 8, none⟩) hblt).trans c8
      clear c0 c1 c2 c3 c4 c5 c6 c7 c8
      go_wp2_with fail
      refine (HIH.out _ (List.getElem_mem hlk) _ _ _ (hat.below hb) (by have := HN.out; have := sz_mem (List.getElem_mem hlk); omega)).mono ?_
      rintro e w1 ⟨v, f', rfl, hat', hf', hb1⟩
      obtain ⟨r0, r1, r2, r3, r4, r5, r6, r7, r8, r9, r10, r11, r12, r13, r14, rfl⟩ := hat'.agg
      obtain ⟨⟨y0, y1, y2, y3, y4, y5, y6, y7, y8, e0, e1, e2, e3, e4, e5, e6, e7, e8⟩, z0⟩ := hB.cells hlk hb1
      clear d0 d1 d2 d3 d4 d5 d6 d7 d8
      go_wp2_with fail
      refine ⟨⟨k + 1, by omega, by go_num, f0 ++ f', ?_, ?_⟩, by simp [intOf]; omega⟩
      · rw [take_succM hlk]
        exact hB.step (vs := [_, _, _, _, _, _, _, _, _]) (by rw [List.length_take]; omega) hlk hb1 hat' hf'
      · exact below_put (vs := [_, _, _, _, _, _, _, _, _]) (o := k * 9) (b := w.heap.size) (below_trans hb hb1) (Nat.le_refl _)
    · go_wp2_with fail
      go_ret
      obtain ⟨fp', hs', hf'⟩ := hB.done (by rw [List.length_take]; omega) (by unfold maxLen; omega)
      rw [List.take_of_length_le (by omega)] at hs'
      exact ⟨_, fp', rfl, hs', hf', hb⟩

/-- The helper's contracts, for every term. -/
theorem toTerm_any : ∀ t : Tm, ToMC t := Tm.ind fun k nm num ty fr lb ts ih => toTerm_of k nm num ty fr lb ts (toTermS_of ts ih)

end Go.Proofs.YtjpmlmdbldcbjaaDoor

namespace Go.Proofs.YtjpmlmdbldcbjaaDoor
open Go.RowKit

theorem one_byte {s : ByteArray} (h : s.size = 1) : ∃ b, s = ⟨#[b]⟩ := by
  obtain ⟨⟨l⟩⟩ := s
  match l, h with
  | [b], _ => exact ⟨b, rfl⟩

theorem isNm_one (b : UInt8) : isNm ⟨#[b]⟩ = (decide (97 ≤ b.toNat) && decide (b.toNat ≤ 122)) := by
  have : (⟨#[b]⟩ : ByteArray).size = 1 := rfl
  simp [isNm, this]

theorem isNm_size {s : ByteArray} (h : s.size ≠ 1) : isNm s = false := by
  have : (s.size == 1) = false := by simpa using h
  simp [isNm, this]

set_option maxHeartbeats 400000 in
theorem isLetter_any (b : Nat) (w : World) : Calls Tryd.prog 99 #[.int .u8 (b : Int)] w fun e w' => e = .returned (.bool (decide (97 ≤ b) && decide (b ≤ 122))) ∧ w' = w := by
  by_cases h1 : 97 ≤ b
  · have h1' : (97 : Int) ≤ (b : Int) := by omega
    go_enter Tryd.func99, Tryd.ntmps99
    go_wp2_with fail
    go_ret
    exact ⟨ret_b (by simp [h1]; omega), rfl⟩
  · have h1' : ¬ (97 : Int) ≤ (b : Int) := by omega
    go_enter Tryd.func99, Tryd.ntmps99
    go_wp2_with fail
    go_ret
    exact ⟨ret_b (by simp), rfl⟩

theorem beq_zero (n : Nat) : ((n : Int) == 0) = (n == 0) := by
  rw [Bool.eq_iff_iff]
  simp

set_option maxHeartbeats 400000 in
theorem isName_any (s : ByteArray) (hm : s.size ≤ 9223372036854775807) (w : World) : Calls Tryd.prog 92 #[.string s] w fun e w' => e = .returned (.bool (isNm s)) ∧ w' = w := by
  by_cases h : s.size = 1
  · obtain ⟨b, rfl⟩ := one_byte h
    have HR := hid (isNm_one b)
    clear h hm
    go_enter Tryd.func92, Tryd.ntmps92
    go_wp2_with fail
    refine (isLetter_any b.toNat _).mono ?_
    rintro e w1 ⟨rfl, rfl⟩
    go_wp2_with fail
    go_ret
    exact ⟨ret_b HR.out.symm, rfl⟩
  · have HR := hid (isNm_size h)
    have h1 : ((s.size : Int) == 1) = false := by simp; omega
    go_enter Tryd.func92, Tryd.ntmps92
    go_wp2_with fail
    go_ret
    exact ⟨ret_b HR.out.symm, rfl⟩

set_option maxHeartbeats 400000 in
theorem l2Name_any (s : ByteArray) (hm : s.size ≤ 9223372036854775807) (w : World) : Calls Tryd.prog 79 #[.string s] w fun e w' => e = .returned (.bool (isNm s)) ∧ w' = w := by
  by_cases h : s.size = 1
  · obtain ⟨b, rfl⟩ := one_byte h
    have HR := hid (isNm_one b)
    clear h hm
    by_cases h1 : 97 ≤ b.toNat
    · have h1' : (97 : Int) ≤ (b.toNat : Int) := by omega
      go_enter Tryd.func79, Tryd.ntmps79
      go_wp2_with fail
      go_ret
      exact ⟨ret_b (by rw [HR.out]; simp [h1]; change (b.toNat : Int) ≤ 122 ↔ _; omega), rfl⟩
    · have h1' : ¬ (97 : Int) ≤ (b.toNat : Int) := by omega
      go_enter Tryd.func79, Tryd.ntmps79
      go_wp2_with fail
      go_ret
      exact ⟨ret_b (by rw [HR.out]; simp [h1]), rfl⟩
  · have HR := hid (isNm_size h)
    have h1 : ((s.size : Int) == 1) = false := by simp; omega
    go_enter Tryd.func79, Tryd.ntmps79
    go_wp2_with fail
    go_ret
    exact ⟨ret_b HR.out.symm, rfl⟩

set_option maxHeartbeats 400000 in
theorem isZeroType_any (t : Ty) (v : Value) (fp : List Nat) (w : World) (h : t.At w v fp) : Calls Tryd.prog 94 #[v] w fun e w' => e = .returned (.bool (noTy t)) ∧ Below w.heap.size w w' := by
  obtain ⟨k, ts, rfl⟩ := t.shape
  obtain ⟨s, rfl, hs⟩ := Ty.at_mk.1 h
  obtain ⟨a, cap, rfl⟩ := hs.shape
  by_cases hk : k = 0
  · subst hk
    go_enter Tryd.func94, Tryd.ntmps94
    go_wp2_with fail
    go_ret
    exact ⟨ret_b (by simp [noTy, beq_zero]), (Below.refl _ _).alloc (Nat.le_refl _) _⟩
  · have h1 : (k == 0) = false := by simpa using hk
    go_enter Tryd.func94, Tryd.ntmps94
    go_wp2_with fail
    go_ret
    exact ⟨ret_b (by simp [noTy, h1]), (Below.refl _ _).alloc (Nat.le_refl _) _⟩

set_option maxHeartbeats 400000 in
theorem l2None_any (t : Ty) (v : Value) (fp : List Nat) (w : World) (h : t.At w v fp) : Calls Tryd.prog 80 #[v] w fun e w' => e = .returned (.bool (noTy t)) ∧ Below w.heap.size w w' := by
  obtain ⟨k, ts, rfl⟩ := t.shape
  obtain ⟨s, rfl, hs⟩ := Ty.at_mk.1 h
  obtain ⟨a, cap, rfl⟩ := hs.shape
  by_cases hk : k = 0
  · subst hk
    go_enter Tryd.func80, Tryd.ntmps80
    go_wp2_with fail
    go_ret
    exact ⟨ret_b (by simp [noTy, beq_zero]), (Below.refl _ _).alloc (Nat.le_refl _) _⟩
  · have h1 : (k == 0) = false := by simpa using hk
    go_enter Tryd.func80, Tryd.ntmps80
    go_wp2_with fail
    go_ret
    exact ⟨ret_b (by simp [noTy, h1]), (Below.refl _ _).alloc (Nat.le_refl _) _⟩
end Go.Proofs.YtjpmlmdbldcbjaaDoor

namespace Go.Proofs.YtjpmlmdbldcbjaaDoor
open Go.RowKit

set_option maxHeartbeats 400000 in
theorem l2Kids_any (k : Int) (w : World) : Calls Tryd.prog 66 #[.int .i64 k] w fun e w' => e = .returned (.int .i64 (kidsM k)) ∧ w' = w := by
  by_cases h1 : k = 1
  · subst h1
    go_enter Tryd.func66, Tryd.ntmps66
    go_wp2_with fail
    go_ret
    exact ⟨rfl, rfl⟩
  by_cases h2 : k = 2
  · subst h2
    go_enter Tryd.func66, Tryd.ntmps66
    go_wp2_with fail
    go_ret
    exact ⟨rfl, rfl⟩
  by_cases h3 : k = 3
  · subst h3
    go_enter Tryd.func66, Tryd.ntmps66
    go_wp2_with fail
    go_ret
    exact ⟨rfl, rfl⟩
  by_cases h4 : k = 4
  · subst h4
    go_enter Tryd.func66, Tryd.ntmps66
    go_wp2_with fail
    go_ret
    exact ⟨rfl, rfl⟩
  by_cases h5 : k = 5
  · subst h5
    go_enter Tryd.func66, Tryd.ntmps66
    go_wp2_with fail
    go_ret
    exact ⟨rfl, rfl⟩
  by_cases h6 : k = 6
  · subst h6
    go_enter Tryd.func66, Tryd.ntmps66
    go_wp2_with fail
    go_ret
    exact ⟨rfl, rfl⟩
  by_cases h7 : k = 7
  · subst h7
    go_enter Tryd.func66, Tryd.ntmps66
    go_wp2_with fail
    go_ret
    exact ⟨rfl, rfl⟩
  by_cases h8 : k = 8
  · subst h8
    go_enter Tryd.func66, Tryd.ntmps66
    go_wp2_with fail
    go_ret
    exact ⟨rfl, rfl⟩
  by_cases h9 : k = 9
  · subst h9
    go_enter Tryd.func66, Tryd.ntmps66
    go_wp2_with fail
    go_ret
    exact ⟨rfl, rfl⟩
  by_cases h10 : k = 10
  · subst h10
    go_enter Tryd.func66, Tryd.ntmps66
    go_wp2_with fail
    go_ret
    exact ⟨rfl, rfl⟩
  by_cases h11 : k = 11
  · subst h11
    go_enter Tryd.func66, Tryd.ntmps66
    go_wp2_with fail
    go_ret
    exact ⟨rfl, rfl⟩
  by_cases h12 : k = 12
  · subst h12
    go_enter Tryd.func66, Tryd.ntmps66
    go_wp2_with fail
    go_ret
    exact ⟨rfl, rfl⟩
  by_cases h13 : k = 13
  · subst h13
    go_enter Tryd.func66, Tryd.ntmps66
    go_wp2_with fail
    go_ret
    exact ⟨rfl, rfl⟩
  by_cases h14 : k = 14
  · subst h14
    go_enter Tryd.func66, Tryd.ntmps66
    go_wp2_with fail
    go_ret
    exact ⟨rfl, rfl⟩
  have H := hid (show kidsM k = -1 by simp [kidsM, h1, h2, h3, h4, h5, h6, h7, h8, h9, h10, h11, h12, h13, h14])
  go_enter Tryd.func66, Tryd.ntmps66
  go_wp2_with fail
  go_ret
  exact ⟨ret_i H.out.symm, rfl⟩

/-- A form has its first n operands and no more. -/
def Opn (s : ByteArray) (n : Nat) : Prop := n ≤ 3 ∧ (∀ j, j < n → showsB s ((65 : Int) + (j : Int)) = true) ∧ showsB s ((65 : Int) + (n : Int)) = false

set_option maxHeartbeats 400000 in
theorem operandsIn_any (s : ByteArray) (n : Nat) (h : Opn s n) (w : World) : Calls Tryd.prog 89 #[.string s] w fun e w' => e = .returned (.int .i64 (n : Int)) ∧ w' = w := by
  obtain ⟨h3, hall, hno⟩ := h
  have HA := hid hall
  have HO := hid hno
  clear hall hno
  go_enter Tryd.func89, Tryd.ntmps89
  go_wp2_with fail
  go_loopw [3] (fun i wr => ∃ k : Nat, k ≤ n ∧ i = .int .i64 k ∧ wr = w) (fun i _ => n - (intOf i).toNat)
  case atStart => exact ⟨0, Nat.zero_le _, rfl, rfl⟩
  case round =>
    obtain ⟨k, hk, rfl, rfl⟩ := hrel
    have hk3 : (k : Int) ≤ 3 := by omega
    have hk0 : (0 : Int) ≤ (k : Int) := by omega
    go_wp2_with fail
    refine (shows_any s (65 + (k : Int)) _).mono ?_
    rintro e w1 ⟨rfl, rfl⟩
    by_cases hkn : k = n
    · subst hkn
      rw [HO.out]
      go_wp2_with fail
      go_ret
      exact ⟨rfl, rfl⟩
    · have hlt : k < n := by omega
      rw [HA.out k hlt]
      go_wp2_with fail
      go_roundw
      case rel => exact ⟨k + 1, by omega, by go_num, by trivial⟩
      case measure => simp [intOf]; omega

end Go.Proofs.YtjpmlmdbldcbjaaDoor

namespace Go.Proofs.YtjpmlmdbldcbjaaDoor
open Go.RowKit

/-- Two blocks that have just been made. -/
theorem two_out {w wr : World} {o1 o2 : Obj} (h : Below ((w.alloc o1).alloc o2).heap.size ((w.alloc o1).alloc o2) wr) :
    wr.heap[w.heap.size]? = some o1 ∧ wr.heap[w.heap.size + 1]? = some o2 := by
  refine ⟨?_, ?_⟩
  · rw [h.block _ (by simp; omega), Below.heap_alloc _ _ _ (by simp)]
    exact alloc_new _ _
  · rw [h.block _ (by simp)]
    have := alloc_new (w.alloc o1) o2
    simpa using this

def EqMC (t : Tm) : Prop := ∀ (v1 v2 : Value) (f1 f2 : List Nat) (w : World), t.At w v1 f1 → t.At w v2 f2 →
  Calls Tryd.prog 11 #[v1, v2] w fun e w' => e = .returned (.bool true) ∧ Below w.heap.size w w'

def EqMSC (ts : List Tm) : Prop := ∀ (s1 s2 : Value) (f1 f2 : List Nat) (w : World), SmAt w ts s1 f1 → SmAt w ts s2 f2 →
  Calls Tryd.prog 31 #[s1, s2] w fun e w' => e = .returned (.bool true) ∧ Below w.heap.size w w'

set_option maxHeartbeats 2000000 in
theorem eqTerm_of (k : Int) (nm : ByteArray) (num : Int) (ty fr : Ty) (lb : Int) (ts : List Tm) (ih : EqMSC ts) : EqMC (.mk k nm num ty fr lb ts) := by
  intro v1 v2 f1 f2 w h1 h2
  obtain ⟨k1, n1, a1, c1, k2, n2, a2, c2, a3, c3, g1, g2, g3, rfl, hnm, ht1, ht2, rfl, hs⟩ := h1.parts
  obtain ⟨k1', n1', a1', c1', k2', n2', a2', c2', a3', c3', g1', g2', g3', rfl, hnm', hu1, hu2, rfl, hs'⟩ := h2.parts
  have HIH := hid ih
  clear ih h1 h2
  have hal : Below w.heap.size w ((w.alloc (Obj.cells #[.int .i64 k, .string nm, .int .i64 num, .int .i64 k1, .slice a1 n1 c1, .int .i64 k2, .slice a2 n2 c2, .int .i64 lb, .slice a3 ts.length c3] 34)).alloc
      (Obj.cells #[.int .i64 k, .string nm, .int .i64 num, .int .i64 k1', .slice a1' n1' c1', .int .i64 k2', .slice a2' n2' c2', .int .i64 lb, .slice a3' ts.length c3'] 34)) := ((Below.refl _ _).alloc (Nat.le_refl _) _).alloc (by simp) _
  go_enter Tryd.func11, Tryd.ntmps11
  go_wp2_with fail
  refine (eqType_any ty ty _ _ _ _ _ (ht1.below hal) (hu1.below hal)).mono ?_
  rw [tyEq_refl]
  rintro e w1 ⟨rfl, hb1⟩
  obtain ⟨hA, hB⟩ := two_out hb1
  have b1 := below_trans hal hb1
  clear hal hb1
  obtain ⟨x0, x1, x2, x3, x4, x5, x6, x7, x8⟩ := cells9 hA
  obtain ⟨y0, y1, y2, y3, y4, y5, y6, y7, y8⟩ := cells9 hB
  go_wp2_with fail
  refine (eqType_any fr fr _ _ _ _ _ (ht2.below b1) (hu2.below b1)).mono ?_
  rw [tyEq_refl]
  rintro e w2 ⟨rfl, hb2⟩
  clear x0 x1 x2 x3 x4 x5 x6 x7 x8 y0 y1 y2 y3 y4 y5 y6 y7 y8
  replace hA := blk hA hb2
  replace hB := blk hB hb2
  have b2 := below_trans b1 hb2
  obtain ⟨x0, x1, x2, x3, x4, x5, x6, x7, x8⟩ := cells9 hA
  obtain ⟨y0, y1, y2, y3, y4, y5, y6, y7, y8⟩ := cells9 hB
  clear hb2 b1
  go_wp2_with fail
  refine (HIH.out _ _ _ _ _ (hs.below b2) (hs'.below b2)).mono ?_
  rintro e w3 ⟨rfl, hb3⟩
  have b3 := below_trans b2 hb3
  clear x0 x1 x2 x3 x4 x5 x6 x7 x8 y0 y1 y2 y3 y4 y5 y6 y7 y8 hb3 b2
  go_wp2_with fail
  go_ret
  exact ⟨rfl, b3⟩

set_option maxHeartbeats 1000000 in
set_option maxRecDepth 100000 in
theorem eqTermS_of (ts : List Tm) (ih : ∀ t ∈ ts, EqMC t) : EqMSC ts := by
  intro s1 s2 f1 f2 w hs1 hs2
  have HIH := hid ih
  clear ih
  obtain ⟨a, cap, rfl, hc, hm, hget⟩ := hs1.open
  have HG := hid hget
  obtain ⟨a2, cap2, rfl, hc2, hm2, hget2⟩ := hs2.open
  have HG2 := hid hget2
  clear hget hget2 hs1 hs2
  go_enter Tryd.func31, Tryd.ntmps31
  go_wp2_with fail
  go_loopw [5] (fun i wr => ∃ k : Nat, k ≤ ts.length ∧ i = .int .i64 k ∧ Below w.heap.size w wr) (fun i _ => ts.length - (intOf i).toNat)
  case atStart => exact ⟨0, Nat.zero_le _, rfl, Below.refl _ _⟩
  case round =>
    obtain ⟨k, hk, rfl, hb⟩ := hrel
    by_cases hlk : k < ts.length
    · obtain ⟨b, o, q0, q1, q2, q3, q4, q5, q6, q7, q8, q9, q10, q11, q12, q13, q14, g1, rfl, hblt, c0, c1, c2, c3, c4, c5, c6, c7, c8, hat, hf⟩ := HG.out k hlk
      obtain ⟨b2, o2, r0, r1, r2, r3, r4, r5, r6, r7, r8, r9, r10, r11, r12, r13, r14, g2, rfl, hblt2, e0, e1, e2, e3, e4, e5, e6, e7, e8, hat2, hf2⟩ := HG2.out k hlk
      replace c0 := cell_keep c0 hb
      replace c1 := cell_keep c1 hb
      replace c2 := cell_keep c2 hb
      replace c3 := cell_keep c3 hb
      replace c4 := cell_keep c4 hb
      replace c5 := cell_keep c5 hb
      replace c6 := cell_keep c6 hb
      replace c7 := cell_keep c7 hb
      replace c8 := cell_keep c8 hb
      replace e0 := cell_keep e0 hb
      replace e1 := cell_keep e1 hb
      replace e2 := cell_keep e2 hb
      replace e3 := cell_keep e3 hb
      replace e4 := cell_keep e4 hb
      replace e5 := cell_keep e5 hb
      replace e6 := cell_keep e6 hb
      replace e7 := cell_keep e7 hb
      replace e8 := cell_keep e8 hb
      go_wp2_with fail
      go_still_tail 8, (by kernel_rfl)
      go_wp2_with fail
      refine (HIH.out _ (List.getElem_mem hlk) _ _ _ _ _ (hat.below ?_) (hat2.below ?_)).mono ?_
      · exact hb.drew
      · exact hb.drew
      rintro e w1 ⟨rfl, hb1⟩
      have hbb := below_trans hb.drew hb1
      clear hb hb1 hat hat2 c0 c1 c2 c3 c4 c5 c6 c7 c8 e0 e1 e2 e3 e4 e5 e6 e7 e8
      go_wp2_with fail
      go_roundw
      case rel => exact ⟨k + 1, by omega, by go_num, hbb⟩
      case measure => simp [intOf]; omega
    · go_wp2_with fail
      go_ret
      exact ⟨rfl, hb⟩

/-- The helper's contract, for every term. -/
theorem eqTerm_any : ∀ t : Tm, EqMC t := Tm.ind fun k nm num ty fr lb ts ih => eqTerm_of k nm num ty fr lb ts (eqTermS_of ts ih)

end Go.Proofs.YtjpmlmdbldcbjaaDoor

namespace Go.Proofs.YtjpmlmdbldcbjaaDoor
open Go.RowKit

theorem Tryd.underElemsM : Tryd.prog.underlying 32 = some (.slice 34) := by kernel_rfl

/-- A row's cells, nine by nine, read as terms. -/
def AtXM (w : World) : List Tm → List Value → List Nat → Prop
  | [], xs, fp => xs = [] ∧ fp = []
  | t :: ts, xs, fp => ∃ L r f g, L.length = 9 ∧ xs = L ++ r ∧ fp = f ++ g ∧ t.At w (.agg L.toArray) f ∧ AtXM w ts r g

theorem AtXM.snoc {w : World} : ∀ {ts : List Tm} {xs : List Value} {fp : List Nat} {t : Tm} {L : List Value} {f : List Nat}, AtXM w ts xs fp → L.length = 9 → t.At w (.agg L.toArray) f → AtXM w (ts ++ [t]) (xs ++ L) (fp ++ f)
  | [], _, _, t, L, f, ⟨rfl, rfl⟩, hL, ht => ⟨L, [], f, [], hL, by simp, by simp, ht, rfl, rfl⟩
  | _ :: _, _, _, t, L, f, ⟨L0, r, f0, g, h9, rfl, rfl, h0, h⟩, hL, ht => ⟨L0, r ++ L, f0, g ++ f, h9, by simp, by simp, h0, AtXM.snoc h hL ht⟩

theorem AtXM.congr {w w' : World} : ∀ {ts : List Tm} {xs : List Value} {fp : List Nat}, AtXM w ts xs fp → (∀ b ∈ fp, ∀ o, w'.cell? ⟨b, o, none⟩ = w.cell? ⟨b, o, none⟩) → AtXM w' ts xs fp
  | [], _, _, h, _ => h
  | _ :: _, _, _, ⟨L0, r, f0, g, h9, rfl, rfl, h0, h⟩, hk => ⟨L0, r, f0, g, h9, rfl, rfl, h0.congr (fun b hb => hk b (by simp [hb])), AtXM.congr h (fun b hb => hk b (by simp [hb]))⟩

theorem AtXM.lt {w : World} : ∀ {ts : List Tm} {xs : List Value} {fp : List Nat}, AtXM w ts xs fp → ∀ b ∈ fp, b < w.heap.size
  | [], _, _, ⟨_, rfl⟩ => by simp
  | _ :: _, _, _, ⟨L0, r, f0, g, h9, rfl, rfl, h0, h⟩ => fun b hb => by
    rcases List.mem_append.1 hb with hb | hb
    · exact h0.lt b hb
    · exact AtXM.lt h b hb

theorem AtXM.atL {w : World} {b : Nat} : ∀ {ts : List Tm} {xs : List Value} {fp : List Nat} {o : Nat}, AtXM w ts xs fp → (∀ j u, xs[j]? = some u → w.cell? ⟨b, o + j, none⟩ = some u) → Tm.AtL w ts b o fp
  | [], _, _, o, ⟨_, rfl⟩, _ => by simp only [Tm.AtL]
  | _ :: _, _, _, o, ⟨L0, r, f0, g, h9, rfl, rfl, h0, h⟩, hc => by
    simp only [Tm.AtL]
    refine ⟨L0.toArray, f0, g, fun i hi => ?_, h0, AtXM.atL h (fun j u hj => ?_), rfl⟩
    · have hi' : i < L0.length := by omega
      rw [hc i L0[i] (by rw [List.getElem?_append_left hi', List.getElem?_eq_getElem hi'])]
      simp [hi']
    · have := hc (j + 9) u (by rw [List.getElem?_append_right (by omega), show j + 9 - L0.length = j by omega]; exact hj)
      rw [show o + 9 + j = o + (j + 9) by omega]
      exact this

/-- The slice v of the call's own, from block B on, reads as the trees ds. -/
def GrowM (B : Nat) (ds : List Tm) (v : Value) (fp : List Nat) (w : World) : Prop :=
  ∃ xs, w.ownsRow B 34 9 v ds.length xs ∧ AtXM w ds xs fp ∧ Fresh B w fp ∧ ∀ b, v.ownBlock = some b → b ∉ fp

theorem GrowM.zero (B : Nat) (w : World) : GrowM B [] (.slice none 0 0) [] w :=
  ⟨[], World.ownsRow_nil w _ _ _, ⟨rfl, rfl⟩, Fresh.nil _ _, by simp⟩

theorem GrowM.below {B : Nat} {ds : List Tm} {v : Value} {fp : List Nat} {w w' : World} (h : GrowM B ds v fp w) (hb : Below w.heap.size w w') : GrowM B ds v fp w' := by
  obtain ⟨xs, ho, ha, hf, hn⟩ := h
  refine ⟨xs, ho.kept (grown_of_below hb none) ?_, ha.congr (fun b hm o => hb.cell (p := ⟨b, o, none⟩) (ha.lt b hm)), hf.below hb, hn⟩
  cases v.ownBlock with
  | none => exact .inl rfl
  | some b => exact .inr (by simp)

theorem GrowM.own {B : Nat} {ds : List Tm} {v : Value} {fp : List Nat} {w : World} (h : GrowM B ds v fp w) : ∃ xs, w.ownsRow B 34 9 v ds.length xs := ⟨_, h.choose_spec.1⟩

theorem GrowM.setCell {B : Nat} {ds : List Tm} {v : Value} {fp : List Nat} {w : World} (h : GrowM B ds v fp w) {p : Addr} (hp : p.block < B) (u : Value) : GrowM B ds v fp (w.setCell p u) := by
  obtain ⟨xs, ho, ha, hf, hn⟩ := h
  have hne : ∀ b ∈ fp, b ≠ p.block := fun b hb e => by have := hf.ge b hb; omega
  exact ⟨xs, ownsRow_setCell_below ho hp u, ha.congr (fun b hm o => cell_setCell_ne w p u b o (hne b hm)), hf.setCell hne u, hn⟩

/-- One more element: the call that made it, the one-element slice of the append, the append. -/
theorem GrowM.step {B : Nat} {ds : List Tm} {v : Value} {fp f : List Nat} {xs : List Value} {w w1 w2 w3 : World} {t : Tm} {L : List Value} {g cap n : Nat}
    (ha : AtXM w1 ds xs fp) (hf : Fresh B w1 fp) (hn : ∀ b, v.ownBlock = some b → b ∉ fp) (hfp : ∀ b ∈ fp, b < w.heap.size) (hvb : ∀ b, v.ownBlock = some b → b < w.heap.size)
    (hB : B ≤ w.heap.size) (hL : L.length = 9) (ht : t.At w1 (.agg L.toArray) f) (hft : Fresh w.heap.size w1 f) (h2 : Below w1.heap.size w1 w2) (hg : w2.grownBy w3 v.ownBlock) (h3 : w3.ownsRow B 34 9 (.slice (some ⟨g, 0, none⟩) n cap) n (xs ++ L))
    (hnn : n = ds.length + 1) (hat : v.ownBlock = some g ∨ g = w2.heap.size) : GrowM B (ds ++ [t]) (.slice (some ⟨g, 0, none⟩) n cap) (fp ++ f) w3 := by
  subst hnn
  have hlt1 : ∀ b ∈ fp ++ f, b < w1.heap.size := fun b hb => by
    rcases List.mem_append.1 hb with hb | hb
    · exact (hf.2 b hb).2.1
    · exact (hft.2 b hb).2.1
  have hne : ∀ b ∈ fp ++ f, some b ≠ v.ownBlock := fun b hb e => by
    rcases List.mem_append.1 hb with hb | hb
    · exact hn b e.symm hb
    · have := hft.ge b hb
      have := hvb b e.symm
      omega
  have hk : ∀ b ∈ fp ++ f, w3.heap[b]? = w1.heap[b]? := fun b hb => by
    rw [hg.block b (Nat.lt_of_lt_of_le (hlt1 b hb) h2.size) (hne b hb), h2.block b (hlt1 b hb)]
  have hc : ∀ b ∈ fp ++ f, ∀ o, w3.cell? ⟨b, o, none⟩ = w1.cell? ⟨b, o, none⟩ := fun b hb o => World.cell?_of_block (w := w1) (a := ⟨b, o, none⟩) (hk b hb)
  have hz : ∀ b ∈ fp ++ f, ∀ o, w3.frozen? ⟨b, o, none⟩ = w1.frozen? ⟨b, o, none⟩ := fun b hb o => World.frozen?_of_block (w := w1) (a := ⟨b, o, none⟩) (hk b hb)
  refine ⟨xs ++ L, by simpa using h3, (ha.snoc hL ht).congr hc, ⟨List.nodup_append.2 ⟨hf.1, hft.1, fun a ha b hb e => ?_⟩, fun b hb => ?_⟩, fun b hb hm => ?_⟩
  · have := hfp a ha
    have := hft.ge b hb
    omega
  · refine ⟨?_, Nat.lt_of_lt_of_le (hlt1 b hb) (Nat.le_trans h2.size hg.size), fun o => ?_⟩
    · rcases List.mem_append.1 hb with hb | hb
      · exact hf.ge b hb
      · exact Nat.le_trans hB (hft.ge b hb)
    · rw [hz b hb o]
      rcases List.mem_append.1 hb with hb | hb
      · exact (hf.2 b hb).2.2 o
      · exact (hft.2 b hb).2.2 o
  · obtain rfl : g = b := by simpa [Value.ownBlock] using hb
    rcases hat with hat | hat
    · exact hne g hm hat.symm
    · have := hlt1 g hm
      have := h2.size
      omega

theorem GrowM.done {B : Nat} {ds : List Tm} {v : Value} {fp : List Nat} {w : World} (h : GrowM B ds v fp w) (hm : ds.length ≤ maxLen) : ∃ fp', SmAt w ds v fp' ∧ Fresh B w fp' := by
  obtain ⟨xs, ho, ha, hf, hn⟩ := h
  rcases ho.2 with ⟨rfl, h0⟩ | ⟨g, cap, cur, rfl, hb, hg, hc, hmx, hsz, hx⟩
  · exact ⟨[], .inl ⟨List.length_eq_zero_iff.1 h0, rfl, none, 0, rfl⟩, Fresh.nil _ _⟩
  · by_cases h0 : ds.length = 0
    · exact ⟨[], .inl ⟨List.length_eq_zero_iff.1 h0, rfl, _, _, by rw [h0]⟩, Fresh.nil _ _⟩
    · have hcell : ∀ j u, xs[j]? = some u → w.cell? ⟨g, 0 + j, none⟩ = some u := fun j u hj => by
        rw [Nat.zero_add, cell_of_block hg, ← hj, ← hx, List.getElem?_take]
        have : j < xs.length := (List.getElem?_eq_some_iff.1 hj).1
        rw [if_pos (by rw [ho.1] at this; exact this)]
        simp
      refine ⟨g :: fp, .inr ⟨g, 0, cap, fp, rfl, by omega, hc, hm, ha.atL hcell, rfl⟩, List.nodup_cons.2 ⟨hn g rfl, hf.1⟩, fun b hb' => ?_⟩
      rcases List.mem_cons.1 hb' with rfl | hb'
      · exact ⟨hb, lt_of_block hg, fun o => frozen_of_block hg⟩
      · exact hf.2 b hb'

theorem GrowM.shape {B : Nat} {ds : List Tm} {v : Value} {fp : List Nat} {w : World} (h : GrowM B ds v fp w) : ∃ a cap, v = .slice a ds.length cap := by
  obtain ⟨xs, ho, _⟩ := h
  rcases ho.2 with ⟨rfl, h0⟩ | ⟨g, cap, cur, rfl, _⟩
  · exact ⟨none, 0, by rw [h0]⟩
  · exact ⟨_, _, rfl⟩

theorem GrowM.block {B : Nat} {ds : List Tm} {v : Value} {fp : List Nat} {w : World} (h : GrowM B ds v fp w) : (∀ b ∈ fp, b < w.heap.size) ∧ ∀ b, v.ownBlock = some b → b < w.heap.size := by
  obtain ⟨xs, ho, _, hf, _⟩ := h
  exact ⟨fun b hb => (hf.2 b hb).2.1, fun b hb => (ho.lt b hb).2⟩


end Go.Proofs.YtjpmlmdbldcbjaaDoor

namespace Go.Proofs.YtjpmlmdbldcbjaaDoor
open Go.RowKit

/-- From w to w' only new blocks and v's own block have been written; v' lies in v's block or in a new one. -/
def Gr (w w' : World) (v v' : Value) : Prop := w.grownBy w' v.ownBlock ∧ (v'.ownBlock = v.ownBlock ∨ ∃ b, v'.ownBlock = some b ∧ w.heap.size ≤ b)

theorem Gr.refl (w : World) (v : Value) : Gr w w v v := ⟨⟨rfl, rfl, rfl, Nat.le_refl _, fun _ _ _ => rfl⟩, .inl rfl⟩

theorem Gr.of_below {w w' : World} (h : Below w.heap.size w w') (v : Value) : Gr w w' v v := ⟨grown_of_below h _, .inl rfl⟩

theorem Gr.trans {a b c : World} {x y z : Value} (h : Gr a b x y) (k : Gr b c y z) : Gr a c x z := by
  obtain ⟨h1, h2⟩ := h
  obtain ⟨k1, k2⟩ := k
  refine ⟨⟨k1.os.trans h1.os, k1.tape.trans h1.tape, k1.output.trans h1.output, Nat.le_trans h1.size k1.size, fun i hi hn => ?_⟩, ?_⟩
  · rw [k1.block i (Nat.lt_of_lt_of_le hi h1.size) ?_, h1.block i hi hn]
    rcases h2 with h2 | ⟨b, h2, hb⟩
    · rw [h2]; exact hn
    · rw [h2]
      intro e
      have := Option.some.inj e
      omega
  · rcases k2 with k2 | ⟨b, k2, hb⟩
    · rcases h2 with h2 | ⟨b, h2, hb⟩
      · exact .inl (k2.trans h2)
      · exact .inr ⟨b, k2.trans h2, hb⟩
    · exact .inr ⟨b, k2, Nat.le_trans h1.size hb⟩

theorem Gr.size {w w' : World} {v v' : Value} (h : Gr w w' v v') : w.heap.size ≤ w'.heap.size := h.1.size

/-- A block that is not v's own is as it was. -/
theorem Gr.heap {w w' : World} {v v' : Value} (h : Gr w w' v v') {M : Nat} {o : Obj} (hM : w.heap[M]? = some o) (hn : some M ≠ v.ownBlock) : w'.heap[M]? = some o :=
  (h.1.block M (lt_of_block hM) hn).trans hM

theorem Gr.cell {w w' : World} {v v' : Value} (h : Gr w w' v v') {b o : Nat} {u : Value} (hc : w.cell? ⟨b, o, none⟩ = some u) (hn : some b ≠ v.ownBlock) : w'.cell? ⟨b, o, none⟩ = some u :=
  (h.1.cell_far ⟨b, o, none⟩ (World.block_lt_of_cell? _ _ hc) hn).trans hc

theorem Gr.tm {w w' : World} {v v' : Value} (h : Gr w w' v v') {t : Tm} {x : Value} {fp : List Nat} (ht : t.At w x fp) (hn : ∀ b ∈ fp, some b ≠ v.ownBlock) : t.At w' x fp :=
  ht.congr fun b hb o => h.1.cell_far ⟨b, o, none⟩ (ht.lt b hb) (hn b hb)

theorem Gr.ty {w w' : World} {v v' : Value} (h : Gr w w' v v') {t : Ty} {x : Value} {fp : List Nat} (ht : t.At w x fp) (hn : ∀ b ∈ fp, some b ≠ v.ownBlock) : t.At w' x fp :=
  ht.congr fun b hb o => h.1.cell_far ⟨b, o, none⟩ (ht.lt b hb) (hn b hb)

/-- Old blocks below B are as they were, if v's own block lies from B on. -/
theorem Gr.below {w w' : World} {v v' : Value} (h : Gr w w' v v') {B : Nat} (hB : B ≤ w.heap.size) (hn : ∀ b, v.ownBlock = some b → B ≤ b) : Below B w w' :=
  ⟨h.1.os, h.1.tape, h.1.output, h.1.size, fun k hk => h.1.block k (by omega) (fun e => by have := hn k e.symm; omega)⟩

theorem GrowT.own_ge {B : Nat} {ds : List Ty} {v : Value} {fp : List Nat} {w : World} (h : GrowT B ds v fp w) : ∀ b, v.ownBlock = some b → B ≤ b ∧ b < w.heap.size := by
  obtain ⟨xs, ho, _⟩ := h
  exact ho.lt

/-- Behind an append of one element. -/
theorem Gr.append {w0 w1 w3 : World} {v : Value} {o : Obj} {g n cap : Nat} (hb : Below w0.heap.size w0 w1) (hg : (w1.alloc o).grownBy w3 v.ownBlock) (hat : v.ownBlock = some g ∨ g = w1.heap.size + 1) : Gr w0 w3 v (.slice (some ⟨g, 0, none⟩) n cap) := by
  have hs := hb.size
  refine ⟨⟨hg.os.trans hb.os, hg.tape.trans hb.tape, hg.output.trans hb.output, Nat.le_trans hs (by have := hg.size; simp at this; omega), fun k hk hn => ?_⟩, ?_⟩
  · rw [hg.block k (by simp; omega) hn, Below.heap_alloc _ _ _ (by omega), hb.block k hk]
  · rcases hat with h | h
    · exact .inl h.symm
    · exact .inr ⟨g, rfl, by omega⟩

end Go.Proofs.YtjpmlmdbldcbjaaDoor

/- The law on MergeTerms: it returns true and writes nothing that was there. -/
import Derived.Deep.RegionHeld3
import Derived.Test.YtffmpjcjmffdeaaDoorUMg2
import Derived.Test.YtffmpjcjmffdeaaDoorUG34
import Derived.Test.YtffmpjcjmffdeaaDoorUPkB
namespace Go.Proofs.YtffmpjcjmffdeaaDoor
open Go.RowKit

theorem two_box {w wr : World} {o1 o2 : Obj} (h : Below ((w.alloc o1).alloc o2).heap.size ((w.alloc o1).alloc o2) wr) :
    wr.heap[w.heap.size]? = some o1 ∧ wr.heap[w.heap.size + 1]? = some o2 := by
  refine ⟨(h.block w.heap.size (by simp; omega)).trans ((Below.heap_alloc _ _ _ (by simp)).trans (alloc_new w _)), ?_⟩
  rw [h.block _ (by simp)]
  have := alloc_new (w.alloc o1) o2
  simpa using this

/-- A block of nine cells, written: what it holds, and a tree beside it. -/
theorem nine_at {y3 : World} {b B : Nat} {c0 c1 c2 c3 c4 c5 c6 c7 c8 v : Value} {t : Tm} {g : List Nat} (v0 v1 v2 v3 v4 v5 v6 v7 v8 : Value) (Q : y3.heap[b]? = some (.cells #[c0, c1, c2, c3, c4, c5, c6, c7, c8] 35 (0, 0))) (hu : t.At y3 v g) (hg : Fresh B y3 g) (hb : b < B) :
    (((((((((y3.setCell ⟨b, 0, none⟩ v0).setCell ⟨b, 1, none⟩ v1).setCell ⟨b, 2, none⟩ v2).setCell ⟨b, 3, none⟩ v3).setCell ⟨b, 4, none⟩ v4).setCell ⟨b, 5, none⟩ v5).setCell ⟨b, 6, none⟩ v6).setCell ⟨b, 7, none⟩ v7).setCell ⟨b, 8, none⟩ v8).heap[b]? = some (.cells #[v0, v1, v2, v3, v4, v5, v6, v7, v8] 35 (0, 0)) ∧ t.At (((((((((y3.setCell ⟨b, 0, none⟩ v0).setCell ⟨b, 1, none⟩ v1).setCell ⟨b, 2, none⟩ v2).setCell ⟨b, 3, none⟩ v3).setCell ⟨b, 4, none⟩ v4).setCell ⟨b, 5, none⟩ v5).setCell ⟨b, 6, none⟩ v6).setCell ⟨b, 7, none⟩ v7).setCell ⟨b, 8, none⟩ v8) v g := by
  have h1 : (put y3 b 0 [v0, v1, v2, v3, v4, v5, v6, v7, v8]).heap[b]? = some (.cells #[v0, v1, v2, v3, v4, v5, v6, v7, v8] 35 (0, 0)) := (heap_put Q).trans (by simp only [putA, List.setIfInBounds_toArray, List.set])
  have h2 : t.At (put y3 b 0 [v0, v1, v2, v3, v4, v5, v6, v7, v8]) v g := hu.above ((Above.refl _ _).put hb) hg.ge
  exact ⟨h1, h2⟩

theorem nine_below {Z y3 : World} {b : Nat} {o : Obj} (v0 v1 v2 v3 v4 v5 v6 v7 v8 : Value) (_ : y3.heap[b]? = some o) (hk : Below Z.heap.size Z y3) (hb : Z.heap.size ≤ b) : Below Z.heap.size Z (((((((((y3.setCell ⟨b, 0, none⟩ v0).setCell ⟨b, 1, none⟩ v1).setCell ⟨b, 2, none⟩ v2).setCell ⟨b, 3, none⟩ v3).setCell ⟨b, 4, none⟩ v4).setCell ⟨b, 5, none⟩ v5).setCell ⟨b, 6, none⟩ v6).setCell ⟨b, 7, none⟩ v7).setCell ⟨b, 8, none⟩ v8) := by
  have h : Below Z.heap.size Z (put y3 b 0 [v0, v1, v2, v3, v4, v5, v6, v7, v8]) := below_put hk hb
  exact h

set_option maxHeartbeats 16000000 in
set_option maxRecDepth 100000 in
theorem lawMergeTerms (t : Tm) (v : Value) (fp : List Nat) (u : Tm) (v2 : Value) (fp2 : List Nat) (w : World) (hF : Forms w) (hat : t.At w v fp) (hau : u.At w v2 fp2) :
    Calls Tryd.prog 7 #[v, v2] w fun e w' => e = .returned (.bool true) ∧ Below w.heap.size w w' := by
  obtain ⟨k, nm, num, k1, n1, a1, c1, k2, n2, a2, c2, lb, n3, a3, c3, rfl⟩ := hat.agg
  obtain ⟨kv, nmv, numv, k1v, n1v, a1v, c1v, k2v, n2v, a2v, c2v, lbv, n3v, a3v, c3v, rfl⟩ := hau.agg
  have hlA := hat.lt
  have hlU := hau.lt
  have hF0 : 0 < w.heap.size := World.block_lt_of_cell? _ _ (hF 0 (by omega))
  have hb0 : Below w.heap.size w ((w.alloc (Obj.cells #[.int .i64 k, .string nm, .int .i64 num, .int .i64 k1, .slice a1 n1 c1, .int .i64 k2, .slice a2 n2 c2, .int .i64 lb, .slice a3 n3 c3] 27)).alloc (Obj.cells #[.int .i64 kv, .string nmv, .int .i64 numv, .int .i64 k1v, .slice a1v n1v c1v, .int .i64 k2v, .slice a2v n2v c2v, .int .i64 lbv, .slice a3v n3v c3v] 27)) := ((Below.refl _ _).alloc (Nat.le_refl _) _).alloc (by simp) _
  by_cases hc : t.sz ≤ 1048576
  case neg =>
    have HS := hid (show szM t.sz 1048576 = -1 by unfold szM; rw [if_neg (by omega)])
    go_enter Tryd.func7, Tryd.ntmps7
    go_wp2_with fail
    refine (szTerm_any t _ fp 1048576 _ (by omega) (by omega) (hat.below hb0)).mono ?_
    rw [HS.out]
    rintro e w1 ⟨rfl, hb1⟩
    go_wp2_with fail
    go_ret
    exact ⟨rfl, below_trans hb0 hb1⟩
  have hpos : (0 : Int) ≤ 1048576 - (t.sz : Int) := by omega
  have HS := hid (show szM t.sz 1048576 = 1048576 - (t.sz : Int) by unfold szM; rw [if_pos (by omega)])
  by_cases hc2 : (u.sz : Int) ≤ 1048576 - (t.sz : Int)
  case neg =>
    have HS2 := hid (show szM u.sz (1048576 - (t.sz : Int)) = -1 by unfold szM; rw [if_neg (by omega)])
    go_enter Tryd.func7, Tryd.ntmps7
    go_wp2_with fail
    refine (szTerm_any t _ fp 1048576 _ (by omega) (by omega) (hat.below hb0)).mono ?_
    rw [HS.out]
    rintro e w1 ⟨rfl, hb1⟩
    obtain ⟨hA, hV⟩ := two_box hb1
    obtain ⟨x0, x1, x2, x3, x4, x5, x6, x7, x8⟩ := cells9 hA
    obtain ⟨s0, s1, s2, s3, s4, s5, s6, s7, s8⟩ := cells9 hV
    clear hA hV
    go_wp2_with fail
    refine (szTerm_any u _ fp2 _ _ (by omega) (by omega) (hau.below (below_trans hb0 hb1))).mono ?_
    rw [HS2.out]
    rintro e w2 ⟨rfl, hb2⟩
    go_wp2_with fail
    go_ret
    exact ⟨rfl, below_trans hb0 (below_trans hb1 hb2)⟩
  have HS2 := hid (show szM u.sz (1048576 - (t.sz : Int)) = 1048576 - (t.sz : Int) - (u.sz : Int) by unfold szM; rw [if_pos (by omega)])
  have hpos2 : (0 : Int) ≤ 1048576 - (t.sz : Int) - (u.sz : Int) := by omega
  have hcu : u.sz ≤ 1048576 := by omega
  have hnt := num_le6 t
  have hnu := num_le6 u
  have hnum : 1 + t.num ≤ 1073741824 := by omega
  have hnumu : 1 + t.num + u.num ≤ 1073741824 := by omega
  have hnum2 : 1 + (mgT t u).num ≤ 1073741824 := by have := mgT_num (b := u) hc; omega
  have hp1 : (0 : Int) ≤ ((1 + t.num : Nat) : Int) := by omega
  have hp2 : (0 : Int) ≤ ((1 + (mgT t u).num : Nat) : Int) := by omega
  have hp3 : (0 : Int) ≤ ((1 + t.num + u.num : Nat) : Int) := by omega
  have HSP := hid (fun (v : Value) (fp : List Nat) (v2 : Value) (fp2 : List Nat) (w : World) (h : t.At w v fp) (h2 : u.At w v2 fp2) => specMerge t u v v2 fp fp2 w hc hcu h h2)
  have HIM := hid (fun (v : Value) (fp : List Nat) (v2 : Value) (fp2 : List Nat) (w : World) (hF : Forms w) (h : t.At w v fp) (h2 : u.At w v2 fp2) => implMerge t u v v2 fp fp2 w hc hcu hF h h2)
  clear hnt hnu
  generalize mgT t u = E at *
  generalize mgB t u = ok at *
  go_enter Tryd.func7, Tryd.ntmps7
  go_wp2_with fail
  refine (szTerm_any t _ fp 1048576 _ (by omega) (by omega) (hat.below hb0)).mono ?_
  rw [HS.out]
  rintro e w1 ⟨rfl, hb1⟩
  have hz := below_trans hb0 hb1
  replace hat := hat.below hz
  replace hau := hau.below hz
  replace hF := hF.below hz
  obtain ⟨hA, hV⟩ := two_box hb1
  obtain ⟨x0, x1, x2, x3, x4, x5, x6, x7, x8⟩ := cells9 hA
  obtain ⟨s0, s1, s2, s3, s4, s5, s6, s7, s8⟩ := cells9 hV
  clear hb0 hb1 hA hV
  go_wp2_with fail
  refine (szTerm_any u _ fp2 _ _ (by omega) (by omega) hau).mono ?_
  rw [HS2.out]
  rintro e z1 ⟨rfl, hb⟩
  replace x0 := cell_keep x0 hb
  replace x1 := cell_keep x1 hb
  replace x2 := cell_keep x2 hb
  replace x3 := cell_keep x3 hb
  replace x4 := cell_keep x4 hb
  replace x5 := cell_keep x5 hb
  replace x6 := cell_keep x6 hb
  replace x7 := cell_keep x7 hb
  replace x8 := cell_keep x8 hb
  replace s0 := cell_keep s0 hb
  replace s1 := cell_keep s1 hb
  replace s2 := cell_keep s2 hb
  replace s3 := cell_keep s3 hb
  replace s4 := cell_keep s4 hb
  replace s5 := cell_keep s5 hb
  replace s6 := cell_keep s6 hb
  replace s7 := cell_keep s7 hb
  replace s8 := cell_keep s8 hb
  replace hat := hat.below hb
  replace hau := hau.below hb
  replace hF := hF.below hb
  replace hz := below_trans hz hb
  clear hb
  go_wp2_with fail
  go_cut [6, 7] (fun sa sb wx => ∃ (b6 : Nat) (k3 : Int) (nm3 : ByteArray) (num3 : Int) (k13 : Int) (n13 : Nat) (a13 : Option Addr) (c13 : Nat) (k23 : Int) (n23 : Nat) (a23 : Option Addr) (c23 : Nat) (lb3 : Int) (n33 : Nat) (a33 : Option Addr) (c33 : Nat) (g3 : List Nat), sa = .pointer (some ⟨b6, 0, none⟩) ∧ sb = .bool ok ∧ Below z1.heap.size z1 wx ∧ wx.heap[b6]? = some (Obj.cells #[.int .i64 k3, .string nm3, .int .i64 num3, .int .i64 k13, .slice a13 n13 c13, .int .i64 k23, .slice a23 n23 c23, .int .i64 lb3, .slice a33 n33 c33] 35) ∧ E.At wx (Value.agg #[.int .i64 k3, .string nm3, .int .i64 num3, .int .i64 k13, .slice a13 n13 c13, .int .i64 k23, .slice a23 n23 c23, .int .i64 lb3, .slice a33 n33 c33]) g3)
  case first =>
    go_region_held3 (fun w' => Below z1.heap.size z1 w' ∧ w'.cell? ⟨w.heap.size, 0, none⟩ = some (.int .i64 k) ∧ w'.cell? ⟨w.heap.size, 1, none⟩ = some (.string nm) ∧ w'.cell? ⟨w.heap.size, 2, none⟩ = some (.int .i64 num) ∧ w'.cell? ⟨w.heap.size, 3, none⟩ = some (.int .i64 k1) ∧ w'.cell? ⟨w.heap.size, 4, none⟩ = some (.slice a1 n1 c1) ∧ w'.cell? ⟨w.heap.size, 5, none⟩ = some (.int .i64 k2) ∧ w'.cell? ⟨w.heap.size, 6, none⟩ = some (.slice a2 n2 c2) ∧ w'.cell? ⟨w.heap.size, 7, none⟩ = some (.int .i64 lb) ∧ w'.cell? ⟨w.heap.size, 8, none⟩ = some (.slice a3 n3 c3) ∧ w'.cell? ⟨(w.heap.size + 1), 0, none⟩ = some (.int .i64 kv) ∧ w'.cell? ⟨(w.heap.size + 1), 1, none⟩ = some (.string nmv) ∧ w'.cell? ⟨(w.heap.size + 1), 2, none⟩ = some (.int .i64 numv) ∧ w'.cell? ⟨(w.heap.size + 1), 3, none⟩ = some (.int .i64 k1v) ∧ w'.cell? ⟨(w.heap.size + 1), 4, none⟩ = some (.slice a1v n1v c1v) ∧ w'.cell? ⟨(w.heap.size + 1), 5, none⟩ = some (.int .i64 k2v) ∧ w'.cell? ⟨(w.heap.size + 1), 6, none⟩ = some (.slice a2v n2v c2v) ∧ w'.cell? ⟨(w.heap.size + 1), 7, none⟩ = some (.int .i64 lbv) ∧ w'.cell? ⟨(w.heap.size + 1), 8, none⟩ = some (.slice a3v n3v c3v))
      ((refine (fun hB => ⟨hB, cell_keep x0 hB, cell_keep x1 hB, cell_keep x2 hB, cell_keep x3 hB, cell_keep x4 hB, cell_keep x5 hB, cell_keep x6 hB, cell_keep x7 hB, cell_keep x8 hB, cell_keep s0 hB, cell_keep s1 hB, cell_keep s2 hB, cell_keep s3 hB, cell_keep s4 hB, cell_keep s5 hB, cell_keep s6 hB, cell_keep s7 hB, cell_keep s8 hB⟩ : Below z1.heap.size z1 _ → _) ?_; (first | with_reducible exact below_drew z1 | with_reducible exact hk3 | with_reducible exact hk2 | with_reducible exact hk1 | with_reducible exact S9 | (go_split_ands; first | with_reducible exact Below.alloc (by with_reducible assumption) (Below.size (by with_reducible assumption)) _ | exact Below.alloc (by with_reducible assumption) (Below.size (by with_reducible assumption)) _))))
      (first
        | (go_at_call_of 12 (Value.agg #[.int .i64 k, .string nm, .int .i64 num, .int .i64 k1, .slice a1 n1 c1, .int .i64 k2, .slice a2 n2 c2, .int .i64 lb, .slice a3 n3 c3]); go_split_ands; refine (toTerm_any t _ _ _ (hat.below (by assumption)) hc).mono ?_; rintro e y1 ⟨u1, g1, rfl, hu1, hg1, hy1⟩; have hk1 : Below z1.heap.size z1 y1 := below_trans (by assumption) hy1; (first | have Q1 : y1.heap[z1.heap.size]? = some (Obj.cells #[.int .i64 0, .string ByteArray.empty, .int .i64 0, .int .i64 0, .slice none 0 0, .int .i64 0, .slice none 0 0, .int .i64 0, .slice none 0 0] 35) := (hy1.block z1.heap.size (by first | (show z1.heap.size < (z1.alloc _).heap.size; simp) | simp)).trans (alloc_new z1 _) | skip))
        | (go_at_call_of 12 (Value.agg #[.int .i64 kv, .string nmv, .int .i64 numv, .int .i64 k1v, .slice a1v n1v c1v, .int .i64 k2v, .slice a2v n2v c2v, .int .i64 lbv, .slice a3v n3v c3v]); go_split_ands; refine (toTerm_any u _ _ _ (hau.below (by assumption)) hcu).mono ?_; rintro e y2 ⟨u2, g2, rfl, hu2, hg2, hy2⟩; have hk2 : Below z1.heap.size z1 y2 := below_trans (by assumption) hy2; (first | have hu1' := hu1.below hy2 | have hu1' := hu1.below (alloc1 hy2)); (first | have Q2 := (hy2.block _ (lt_of_block Q1)).trans Q1 | have Q2 := (hy2.block y1.heap.size (by simp)).trans (alloc_new y1 _) | skip))
        | (go_at_call 29; go_split_ands; refine (HSP.out _ _ _ _ _ (by first | exact hu1' | exact hu1'.below ((Below.refl _ _).alloc (Nat.le_refl _) _)) (by first | exact hu2 | exact hu2.below ((Below.refl _ _).alloc (Nat.le_refl _) _))).mono ?_; rintro e y3 ⟨u3, g3, rfl, hu3, hg3, hy3⟩; obtain ⟨k3, nm3, num3, k13, n13, a13, c13, k23, n23, a23, c23, lb3, n33, a33, c33, rfl⟩ := hu3.agg; have hk3 : Below z1.heap.size z1 y3 := below_trans (by assumption) hy3; (first | have Q3 := (hy3.block _ (lt_of_block Q2)).trans Q2 | have Q3 := (hy3.block y2.heap.size (by simp)).trans (alloc_new y2 _) | skip); (first | (have f0 := (fun o => frozen_of_block (o := o) Q3); obtain ⟨d0, d1, d2, d3, d4, d5, d6, d7, d8⟩ := cells9 Q3; have S9 := nine_below (.int .i64 k3) (.string nm3) (.int .i64 num3) (.int .i64 k13) (.slice a13 n13 c13) (.int .i64 k23) (.slice a23 n23 c23) (.int .i64 lb3) (.slice a33 n33 c33) Q3 hk3 (by first | exact hk2.size | exact hk1.size | exact Nat.le_refl _)) | skip)))
    all_goals
      repeat (rename (World.cell? _ _ = some _) => hq; clear hq)
      go_wp2_with fail
      go_meet
      refine ⟨_, k3, nm3, num3, k13, n13, a13, c13, k23, n23, a23, c23, lb3, n33, a33, c33, g3, (by with_reducible rfl), (by with_reducible rfl), (by first | with_reducible exact S9 | with_reducible exact hk3 | with_reducible exact hk3.alloc hk3.size _), ?_⟩
      first
        | with_reducible exact nine_at (.int .i64 k3) (.string nm3) (.int .i64 num3) (.int .i64 k13) (.slice a13 n13 c13) (.int .i64 k23) (.slice a23 n23 c23) (.int .i64 lb3) (.slice a33 n33 c33) Q3 hu3 hg3 (by first | exact Nat.lt_of_lt_of_le (lt_of_block Q2) (Nat.le_refl _) | exact Nat.lt_of_lt_of_le (lt_of_block Q2) (by simp) | (simp; done))
        | with_reducible exact ⟨alloc_new _ _, hu3.below ((Below.refl _ _).alloc (Nat.le_refl _) _)⟩
  case rest =>
  obtain ⟨b6, k6, nm6, num6, k16, n16, a16, c16, k26, n26, a26, c26, lb6, n36, a36, c36, f6, rfl, rfl, hb, hB6, hw6⟩ := hcut
  obtain ⟨e0, e1, e2, e3, e4, e5, e6, e7, e8⟩ := cells9 hB6
  replace x0 := cell_keep x0 hb
  replace x1 := cell_keep x1 hb
  replace x2 := cell_keep x2 hb
  replace x3 := cell_keep x3 hb
  replace x4 := cell_keep x4 hb
  replace x5 := cell_keep x5 hb
  replace x6 := cell_keep x6 hb
  replace x7 := cell_keep x7 hb
  replace x8 := cell_keep x8 hb
  replace s0 := cell_keep s0 hb
  replace s1 := cell_keep s1 hb
  replace s2 := cell_keep s2 hb
  replace s3 := cell_keep s3 hb
  replace s4 := cell_keep s4 hb
  replace s5 := cell_keep s5 hb
  replace s6 := cell_keep s6 hb
  replace s7 := cell_keep s7 hb
  replace s8 := cell_keep s8 hb
  replace hat := hat.below hb
  replace hau := hau.below hb
  replace hF := hF.below hb
  replace hz := below_trans hz hb
  have hSw : w.heap.size + 1 < wc.heap.size := World.block_lt_of_cell? _ _ s0
  have hlb6 : b6 < wc.heap.size := World.block_lt_of_cell? _ _ e0
  have hl6 := hw6.lt
  clear hb hB6
  go_wp2_with fail
  refine (toTerm_any t _ fp _ hat hc).mono ?_
  rintro e y4 ⟨v4, f4, rfl, h4, hf4, hb4⟩
  obtain ⟨k4, nm4, num4, k14, n14, a14, c14, k24, n24, a24, c24, lb4, n34, a34, c34, rfl⟩ := h4.agg
  have hb4a : Below y4.heap.size y4 (y4.alloc (Obj.cells #[.int .i64 k4, .string nm4, .int .i64 num4, .int .i64 k14, .slice a14 n14 c14, .int .i64 k24, .slice a24 n24 c24, .int .i64 lb4, .slice a34 n34 c34] 35)) := (Below.refl _ _).alloc (Nat.le_refl _) _
  have hR4 : Within wc.heap.size y4.heap.size f4 := hf4.within
  have hS4 : wc.heap.size ≤ y4.heap.size := hb4.size
  have hb := below_trans hb4 hb4a
  replace x0 := cell_keep x0 hb
  replace x1 := cell_keep x1 hb
  replace x2 := cell_keep x2 hb
  replace x3 := cell_keep x3 hb
  replace x4 := cell_keep x4 hb
  replace x5 := cell_keep x5 hb
  replace x6 := cell_keep x6 hb
  replace x7 := cell_keep x7 hb
  replace x8 := cell_keep x8 hb
  replace s0 := cell_keep s0 hb
  replace s1 := cell_keep s1 hb
  replace s2 := cell_keep s2 hb
  replace s3 := cell_keep s3 hb
  replace s4 := cell_keep s4 hb
  replace s5 := cell_keep s5 hb
  replace s6 := cell_keep s6 hb
  replace s7 := cell_keep s7 hb
  replace s8 := cell_keep s8 hb
  replace e0 := cell_keep e0 hb
  replace e1 := cell_keep e1 hb
  replace e2 := cell_keep e2 hb
  replace e3 := cell_keep e3 hb
  replace e4 := cell_keep e4 hb
  replace e5 := cell_keep e5 hb
  replace e6 := cell_keep e6 hb
  replace e7 := cell_keep e7 hb
  replace e8 := cell_keep e8 hb
  replace hat := hat.below hb
  replace hau := hau.below hb
  replace hF := hF.below hb
  replace hw6 := hw6.below hb
  replace hz := below_trans hz hb
  replace h4 := h4.below hb4a
  replace hf4 := hf4.below hb4a
  clear hb hb4 hb4a
  go_wp2_with fail
  refine (toTerm_any u _ fp2 _ hau hcu).mono ?_
  rintro e y5 ⟨v5, f5, rfl, h5, hf5, hb5⟩
  obtain ⟨k5, nm5, num5, k15, n15, a15, c15, k25, n25, a25, c25, lb5, n35, a35, c35, rfl⟩ := h5.agg
  obtain ⟨q0, q1, q2, q3, q4, q5, q6, q7, q8⟩ := box9 hb5
  have hb5a : Below y5.heap.size y5 (y5.alloc (Obj.cells #[.int .i64 k5, .string nm5, .int .i64 num5, .int .i64 k15, .slice a15 n15 c15, .int .i64 k25, .slice a25 n25 c25, .int .i64 lb5, .slice a35 n35 c35] 35)) := (Below.refl _ _).alloc (Nat.le_refl _) _
  have hR5 : Within (y4.heap.size + 1) y5.heap.size f5 := by have := hf5.within; simpa using this
  have hS5 : y4.heap.size + 1 ≤ y5.heap.size := by have := hb5.size; simp at this; omega
  have hb := below_trans hb5 hb5a
  replace x0 := cell_keep x0 hb
  replace x1 := cell_keep x1 hb
  replace x2 := cell_keep x2 hb
  replace x3 := cell_keep x3 hb
  replace x4 := cell_keep x4 hb
  replace x5 := cell_keep x5 hb
  replace x6 := cell_keep x6 hb
  replace x7 := cell_keep x7 hb
  replace x8 := cell_keep x8 hb
  replace s0 := cell_keep s0 hb
  replace s1 := cell_keep s1 hb
  replace s2 := cell_keep s2 hb
  replace s3 := cell_keep s3 hb
  replace s4 := cell_keep s4 hb
  replace s5 := cell_keep s5 hb
  replace s6 := cell_keep s6 hb
  replace s7 := cell_keep s7 hb
  replace s8 := cell_keep s8 hb
  replace e0 := cell_keep e0 hb
  replace e1 := cell_keep e1 hb
  replace e2 := cell_keep e2 hb
  replace e3 := cell_keep e3 hb
  replace e4 := cell_keep e4 hb
  replace e5 := cell_keep e5 hb
  replace e6 := cell_keep e6 hb
  replace e7 := cell_keep e7 hb
  replace e8 := cell_keep e8 hb
  replace hat := hat.below hb
  replace hau := hau.below hb
  replace hF := hF.below hb
  replace hw6 := hw6.below hb
  replace h4 := h4.below hb
  replace hf4 := hf4.below hb
  replace hz := below_trans hz hb
  replace q0 := cell_keep q0 hb5a
  replace q1 := cell_keep q1 hb5a
  replace q2 := cell_keep q2 hb5a
  replace q3 := cell_keep q3 hb5a
  replace q4 := cell_keep q4 hb5a
  replace q5 := cell_keep q5 hb5a
  replace q6 := cell_keep q6 hb5a
  replace q7 := cell_keep q7 hb5a
  replace q8 := cell_keep q8 hb5a
  replace h5 := h5.below hb5a
  replace hf5 := hf5.below hb5a
  clear hb hb5 hb5a
  go_wp2_with fail
  refine (HIM.out _ _ _ _ _ hF h4 h5).mono ?_
  rintro e y6 ⟨vg, fg, rfl, hg, hfg, hb6⟩
  obtain ⟨kg, nmg, numg, k1g, n1g, a1g, c1g, k2g, n2g, a2g, c2g, lbg, n3g, a3g, c3g, rfl⟩ := hg.agg
  obtain ⟨p0, p1, p2, p3, p4, p5, p6, p7, p8⟩ := box9 hb6
  have hb6a : Below y6.heap.size y6 (y6.alloc (Obj.cells #[.int .i64 kg, .string nmg, .int .i64 numg, .int .i64 k1g, .slice a1g n1g c1g, .int .i64 k2g, .slice a2g n2g c2g, .int .i64 lbg, .slice a3g n3g c3g] 35)) := (Below.refl _ _).alloc (Nat.le_refl _) _
  have hR6 : Within (y5.heap.size + 1) y6.heap.size fg := by have := hfg.within; simpa using this
  have hS6 : y5.heap.size + 1 ≤ y6.heap.size := by have := hb6.size; simp at this; omega
  have hb := below_trans hb6 hb6a
  replace x0 := cell_keep x0 hb
  replace x1 := cell_keep x1 hb
  replace x2 := cell_keep x2 hb
  replace x3 := cell_keep x3 hb
  replace x4 := cell_keep x4 hb
  replace x5 := cell_keep x5 hb
  replace x6 := cell_keep x6 hb
  replace x7 := cell_keep x7 hb
  replace x8 := cell_keep x8 hb
  replace s0 := cell_keep s0 hb
  replace s1 := cell_keep s1 hb
  replace s2 := cell_keep s2 hb
  replace s3 := cell_keep s3 hb
  replace s4 := cell_keep s4 hb
  replace s5 := cell_keep s5 hb
  replace s6 := cell_keep s6 hb
  replace s7 := cell_keep s7 hb
  replace s8 := cell_keep s8 hb
  replace e0 := cell_keep e0 hb
  replace e1 := cell_keep e1 hb
  replace e2 := cell_keep e2 hb
  replace e3 := cell_keep e3 hb
  replace e4 := cell_keep e4 hb
  replace e5 := cell_keep e5 hb
  replace e6 := cell_keep e6 hb
  replace e7 := cell_keep e7 hb
  replace e8 := cell_keep e8 hb
  replace q0 := cell_keep q0 hb
  replace q1 := cell_keep q1 hb
  replace q2 := cell_keep q2 hb
  replace q3 := cell_keep q3 hb
  replace q4 := cell_keep q4 hb
  replace q5 := cell_keep q5 hb
  replace q6 := cell_keep q6 hb
  replace q7 := cell_keep q7 hb
  replace q8 := cell_keep q8 hb
  replace hat := hat.below hb
  replace hau := hau.below hb
  replace hF := hF.below hb
  replace hw6 := hw6.below hb
  replace h4 := h4.below hb
  replace h5 := h5.below hb
  replace hf4 := hf4.below hb
  replace hf5 := hf5.below hb
  replace hz := below_trans hz hb
  replace p0 := cell_keep p0 hb6a
  replace p1 := cell_keep p1 hb6a
  replace p2 := cell_keep p2 hb6a
  replace p3 := cell_keep p3 hb6a
  replace p4 := cell_keep p4 hb6a
  replace p5 := cell_keep p5 hb6a
  replace p6 := cell_keep p6 hb6a
  replace p7 := cell_keep p7 hb6a
  replace p8 := cell_keep p8 hb6a
  replace hg := hg.below hb6a
  replace hfg := hfg.below hb6a
  clear hb hb6 hb6a
  go_wp2_with fail
  refine (eqTerm_any E _ _ _ _ _ hg hw6).mono ?_
  rintro e y7 ⟨rfl, hb⟩
  obtain ⟨g0, g1, g2, g3, g4, g5, g6, g7, g8⟩ := box9 hb
  replace x0 := cell_keep x0 hb
  replace x1 := cell_keep x1 hb
  replace x2 := cell_keep x2 hb
  replace x3 := cell_keep x3 hb
  replace x4 := cell_keep x4 hb
  replace x5 := cell_keep x5 hb
  replace x6 := cell_keep x6 hb
  replace x7 := cell_keep x7 hb
  replace x8 := cell_keep x8 hb
  replace s0 := cell_keep s0 hb
  replace s1 := cell_keep s1 hb
  replace s2 := cell_keep s2 hb
  replace s3 := cell_keep s3 hb
  replace s4 := cell_keep s4 hb
  replace s5 := cell_keep s5 hb
  replace s6 := cell_keep s6 hb
  replace s7 := cell_keep s7 hb
  replace s8 := cell_keep s8 hb
  replace e0 := cell_keep e0 hb
  replace e1 := cell_keep e1 hb
  replace e2 := cell_keep e2 hb
  replace e3 := cell_keep e3 hb
  replace e4 := cell_keep e4 hb
  replace e5 := cell_keep e5 hb
  replace e6 := cell_keep e6 hb
  replace e7 := cell_keep e7 hb
  replace e8 := cell_keep e8 hb
  replace q0 := cell_keep q0 hb
  replace q1 := cell_keep q1 hb
  replace q2 := cell_keep q2 hb
  replace q3 := cell_keep q3 hb
  replace q4 := cell_keep q4 hb
  replace q5 := cell_keep q5 hb
  replace q6 := cell_keep q6 hb
  replace q7 := cell_keep q7 hb
  replace q8 := cell_keep q8 hb
  replace p0 := cell_keep p0 hb
  replace p1 := cell_keep p1 hb
  replace p2 := cell_keep p2 hb
  replace p3 := cell_keep p3 hb
  replace p4 := cell_keep p4 hb
  replace p5 := cell_keep p5 hb
  replace p6 := cell_keep p6 hb
  replace p7 := cell_keep p7 hb
  replace p8 := cell_keep p8 hb
  replace hat := hat.below hb
  replace hau := hau.below hb
  replace hF := hF.below hb
  replace hw6 := hw6.below hb
  replace h4 := h4.below hb
  replace h5 := h5.below hb
  replace hg := hg.below hb
  replace hf4 := hf4.below hb
  replace hf5 := hf5.below hb
  replace hfg := hfg.below hb
  replace hz := below_trans hz hb
  clear hb
  go_wp2_with fail
  go_region_held3 (fun w' => Below y7.heap.size y7 w' ∧ w'.cell? ⟨w.heap.size, 0, none⟩ = some (.int .i64 k) ∧ w'.cell? ⟨w.heap.size, 1, none⟩ = some (.string nm) ∧ w'.cell? ⟨w.heap.size, 2, none⟩ = some (.int .i64 num) ∧ w'.cell? ⟨w.heap.size, 3, none⟩ = some (.int .i64 k1) ∧ w'.cell? ⟨w.heap.size, 4, none⟩ = some (.slice a1 n1 c1) ∧ w'.cell? ⟨w.heap.size, 5, none⟩ = some (.int .i64 k2) ∧ w'.cell? ⟨w.heap.size, 6, none⟩ = some (.slice a2 n2 c2) ∧ w'.cell? ⟨w.heap.size, 7, none⟩ = some (.int .i64 lb) ∧ w'.cell? ⟨w.heap.size, 8, none⟩ = some (.slice a3 n3 c3) ∧ w'.cell? ⟨y4.heap.size, 0, none⟩ = some (.int .i64 k4) ∧ w'.cell? ⟨y4.heap.size, 1, none⟩ = some (.string nm4) ∧ w'.cell? ⟨y4.heap.size, 2, none⟩ = some (.int .i64 num4) ∧ w'.cell? ⟨y4.heap.size, 3, none⟩ = some (.int .i64 k14) ∧ w'.cell? ⟨y4.heap.size, 4, none⟩ = some (.slice a14 n14 c14) ∧ w'.cell? ⟨y4.heap.size, 5, none⟩ = some (.int .i64 k24) ∧ w'.cell? ⟨y4.heap.size, 6, none⟩ = some (.slice a24 n24 c24) ∧ w'.cell? ⟨y4.heap.size, 7, none⟩ = some (.int .i64 lb4) ∧ w'.cell? ⟨y4.heap.size, 8, none⟩ = some (.slice a34 n34 c34))
    ((refine (fun hB => ⟨hB, cell_keep x0 hB, cell_keep x1 hB, cell_keep x2 hB, cell_keep x3 hB, cell_keep x4 hB, cell_keep x5 hB, cell_keep x6 hB, cell_keep x7 hB, cell_keep x8 hB, cell_keep q0 hB, cell_keep q1 hB, cell_keep q2 hB, cell_keep q3 hB, cell_keep q4 hB, cell_keep q5 hB, cell_keep q6 hB, cell_keep q7 hB, cell_keep q8 hB⟩ : Below y7.heap.size y7 _ → _) ?_; (first | exact below_drew y7 | exact hk1 | exact hk2)))
    (first
      | (go_at_call 12; refine (toTerm_any t _ _ _ (hat.below (below_drew y7)) hc).mono ?_; rintro e y8 ⟨uu8, gg8, rfl, hu, hgg, hy⟩; have hk1 := below_trans (below_drew y7) hy)
      | (go_at_call 14; refine (eqTerm_any t _ _ _ _ _ (h4.below hk1) hu).mono ?_; rintro e y9 ⟨rfl, hyy⟩; have hk2 := below_trans hk1 hyy))
  replace x0 := cell_keep x0 hk2
  replace x1 := cell_keep x1 hk2
  replace x2 := cell_keep x2 hk2
  replace x3 := cell_keep x3 hk2
  replace x4 := cell_keep x4 hk2
  replace x5 := cell_keep x5 hk2
  replace x6 := cell_keep x6 hk2
  replace x7 := cell_keep x7 hk2
  replace x8 := cell_keep x8 hk2
  replace s0 := cell_keep s0 hk2
  replace s1 := cell_keep s1 hk2
  replace s2 := cell_keep s2 hk2
  replace s3 := cell_keep s3 hk2
  replace s4 := cell_keep s4 hk2
  replace s5 := cell_keep s5 hk2
  replace s6 := cell_keep s6 hk2
  replace s7 := cell_keep s7 hk2
  replace s8 := cell_keep s8 hk2
  replace e0 := cell_keep e0 hk2
  replace e1 := cell_keep e1 hk2
  replace e2 := cell_keep e2 hk2
  replace e3 := cell_keep e3 hk2
  replace e4 := cell_keep e4 hk2
  replace e5 := cell_keep e5 hk2
  replace e6 := cell_keep e6 hk2
  replace e7 := cell_keep e7 hk2
  replace e8 := cell_keep e8 hk2
  replace q0 := cell_keep q0 hk2
  replace q1 := cell_keep q1 hk2
  replace q2 := cell_keep q2 hk2
  replace q3 := cell_keep q3 hk2
  replace q4 := cell_keep q4 hk2
  replace q5 := cell_keep q5 hk2
  replace q6 := cell_keep q6 hk2
  replace q7 := cell_keep q7 hk2
  replace q8 := cell_keep q8 hk2
  replace p0 := cell_keep p0 hk2
  replace p1 := cell_keep p1 hk2
  replace p2 := cell_keep p2 hk2
  replace p3 := cell_keep p3 hk2
  replace p4 := cell_keep p4 hk2
  replace p5 := cell_keep p5 hk2
  replace p6 := cell_keep p6 hk2
  replace p7 := cell_keep p7 hk2
  replace p8 := cell_keep p8 hk2
  replace g0 := cell_keep g0 hk2
  replace g1 := cell_keep g1 hk2
  replace g2 := cell_keep g2 hk2
  replace g3 := cell_keep g3 hk2
  replace g4 := cell_keep g4 hk2
  replace g5 := cell_keep g5 hk2
  replace g6 := cell_keep g6 hk2
  replace g7 := cell_keep g7 hk2
  replace g8 := cell_keep g8 hk2
  replace hat := hat.below hk2
  replace hau := hau.below hk2
  replace hF := hF.below hk2
  replace hw6 := hw6.below hk2
  replace h4 := h4.below hk2
  replace h5 := h5.below hk2
  replace hg := hg.below hk2
  replace hf4 := hf4.below hk2
  replace hf5 := hf5.below hk2
  replace hfg := hfg.below hk2
  replace hz := below_trans hz hk2
  clear hk1 hk2 hu hgg hy hyy
  go_wp2_with fail
  go_region_held3 (fun w' => Below y9.heap.size y9 w' ∧ w'.cell? ⟨(w.heap.size + 1), 0, none⟩ = some (.int .i64 kv) ∧ w'.cell? ⟨(w.heap.size + 1), 1, none⟩ = some (.string nmv) ∧ w'.cell? ⟨(w.heap.size + 1), 2, none⟩ = some (.int .i64 numv) ∧ w'.cell? ⟨(w.heap.size + 1), 3, none⟩ = some (.int .i64 k1v) ∧ w'.cell? ⟨(w.heap.size + 1), 4, none⟩ = some (.slice a1v n1v c1v) ∧ w'.cell? ⟨(w.heap.size + 1), 5, none⟩ = some (.int .i64 k2v) ∧ w'.cell? ⟨(w.heap.size + 1), 6, none⟩ = some (.slice a2v n2v c2v) ∧ w'.cell? ⟨(w.heap.size + 1), 7, none⟩ = some (.int .i64 lbv) ∧ w'.cell? ⟨(w.heap.size + 1), 8, none⟩ = some (.slice a3v n3v c3v) ∧ w'.cell? ⟨y5.heap.size, 0, none⟩ = some (.int .i64 k5) ∧ w'.cell? ⟨y5.heap.size, 1, none⟩ = some (.string nm5) ∧ w'.cell? ⟨y5.heap.size, 2, none⟩ = some (.int .i64 num5) ∧ w'.cell? ⟨y5.heap.size, 3, none⟩ = some (.int .i64 k15) ∧ w'.cell? ⟨y5.heap.size, 4, none⟩ = some (.slice a15 n15 c15) ∧ w'.cell? ⟨y5.heap.size, 5, none⟩ = some (.int .i64 k25) ∧ w'.cell? ⟨y5.heap.size, 6, none⟩ = some (.slice a25 n25 c25) ∧ w'.cell? ⟨y5.heap.size, 7, none⟩ = some (.int .i64 lb5) ∧ w'.cell? ⟨y5.heap.size, 8, none⟩ = some (.slice a35 n35 c35))
    ((refine (fun hB => ⟨hB, cell_keep s0 hB, cell_keep s1 hB, cell_keep s2 hB, cell_keep s3 hB, cell_keep s4 hB, cell_keep s5 hB, cell_keep s6 hB, cell_keep s7 hB, cell_keep s8 hB, cell_keep p0 hB, cell_keep p1 hB, cell_keep p2 hB, cell_keep p3 hB, cell_keep p4 hB, cell_keep p5 hB, cell_keep p6 hB, cell_keep p7 hB, cell_keep p8 hB⟩ : Below y9.heap.size y9 _ → _) ?_; (first | exact below_drew y9 | exact hk1 | exact hk2)))
    (first
      | (go_at_call 12; refine (toTerm_any u _ _ _ (hau.below (below_drew y9)) hcu).mono ?_; rintro e y10 ⟨uu10, gg10, rfl, hu, hgg, hy⟩; have hk1 := below_trans (below_drew y9) hy)
      | (go_at_call 14; refine (eqTerm_any u _ _ _ _ _ (h5.below hk1) hu).mono ?_; rintro e y11 ⟨rfl, hyy⟩; have hk2 := below_trans hk1 hyy))
  replace x0 := cell_keep x0 hk2
  replace x1 := cell_keep x1 hk2
  replace x2 := cell_keep x2 hk2
  replace x3 := cell_keep x3 hk2
  replace x4 := cell_keep x4 hk2
  replace x5 := cell_keep x5 hk2
  replace x6 := cell_keep x6 hk2
  replace x7 := cell_keep x7 hk2
  replace x8 := cell_keep x8 hk2
  replace s0 := cell_keep s0 hk2
  replace s1 := cell_keep s1 hk2
  replace s2 := cell_keep s2 hk2
  replace s3 := cell_keep s3 hk2
  replace s4 := cell_keep s4 hk2
  replace s5 := cell_keep s5 hk2
  replace s6 := cell_keep s6 hk2
  replace s7 := cell_keep s7 hk2
  replace s8 := cell_keep s8 hk2
  replace e0 := cell_keep e0 hk2
  replace e1 := cell_keep e1 hk2
  replace e2 := cell_keep e2 hk2
  replace e3 := cell_keep e3 hk2
  replace e4 := cell_keep e4 hk2
  replace e5 := cell_keep e5 hk2
  replace e6 := cell_keep e6 hk2
  replace e7 := cell_keep e7 hk2
  replace e8 := cell_keep e8 hk2
  replace q0 := cell_keep q0 hk2
  replace q1 := cell_keep q1 hk2
  replace q2 := cell_keep q2 hk2
  replace q3 := cell_keep q3 hk2
  replace q4 := cell_keep q4 hk2
  replace q5 := cell_keep q5 hk2
  replace q6 := cell_keep q6 hk2
  replace q7 := cell_keep q7 hk2
  replace q8 := cell_keep q8 hk2
  replace p0 := cell_keep p0 hk2
  replace p1 := cell_keep p1 hk2
  replace p2 := cell_keep p2 hk2
  replace p3 := cell_keep p3 hk2
  replace p4 := cell_keep p4 hk2
  replace p5 := cell_keep p5 hk2
  replace p6 := cell_keep p6 hk2
  replace p7 := cell_keep p7 hk2
  replace p8 := cell_keep p8 hk2
  replace g0 := cell_keep g0 hk2
  replace g1 := cell_keep g1 hk2
  replace g2 := cell_keep g2 hk2
  replace g3 := cell_keep g3 hk2
  replace g4 := cell_keep g4 hk2
  replace g5 := cell_keep g5 hk2
  replace g6 := cell_keep g6 hk2
  replace g7 := cell_keep g7 hk2
  replace g8 := cell_keep g8 hk2
  replace hat := hat.below hk2
  replace hau := hau.below hk2
  replace hF := hF.below hk2
  replace hw6 := hw6.below hk2
  replace h4 := h4.below hk2
  replace h5 := h5.below hk2
  replace hg := hg.below hk2
  replace hf4 := hf4.below hk2
  replace hf5 := hf5.below hk2
  replace hfg := hfg.below hk2
  replace hz := below_trans hz hk2
  clear hk1 hk2 hu hgg hy hyy
  go_wp2_with fail
  have hRA : Within 0 w.heap.size fp := fun b hb => ⟨Nat.zero_le _, hlA b hb⟩
  have hRV : Within 0 w.heap.size fp2 := fun b hb => ⟨Nat.zero_le _, hlU b hb⟩
  have hRw : Within 0 wc.heap.size f6 := fun b hb => ⟨Nat.zero_le _, hl6 b hb⟩
  have hFz : 0 < w.heap.size := hF0
  refine (markTerm_any t _ f4 1 _ _ h4 hf4.1 (fun b hb => (hf4.2 b hb).2.2) rfl hnum).mono ?_
  rintro e y12 ⟨rfl, _, hon⟩
  clear q0 q1 q2 q3 q4 q5 q6 q7 q8 h4 hf4
  replace x0 := cell_only x0 hon (by first | exact hR4.low (by omega) | exact hR4.high (by omega))
  replace x1 := cell_only x1 hon (by first | exact hR4.low (by omega) | exact hR4.high (by omega))
  replace x2 := cell_only x2 hon (by first | exact hR4.low (by omega) | exact hR4.high (by omega))
  replace x3 := cell_only x3 hon (by first | exact hR4.low (by omega) | exact hR4.high (by omega))
  replace x4 := cell_only x4 hon (by first | exact hR4.low (by omega) | exact hR4.high (by omega))
  replace x5 := cell_only x5 hon (by first | exact hR4.low (by omega) | exact hR4.high (by omega))
  replace x6 := cell_only x6 hon (by first | exact hR4.low (by omega) | exact hR4.high (by omega))
  replace x7 := cell_only x7 hon (by first | exact hR4.low (by omega) | exact hR4.high (by omega))
  replace x8 := cell_only x8 hon (by first | exact hR4.low (by omega) | exact hR4.high (by omega))
  replace s0 := cell_only s0 hon (by first | exact hR4.low (by omega) | exact hR4.high (by omega))
  replace s1 := cell_only s1 hon (by first | exact hR4.low (by omega) | exact hR4.high (by omega))
  replace s2 := cell_only s2 hon (by first | exact hR4.low (by omega) | exact hR4.high (by omega))
  replace s3 := cell_only s3 hon (by first | exact hR4.low (by omega) | exact hR4.high (by omega))
  replace s4 := cell_only s4 hon (by first | exact hR4.low (by omega) | exact hR4.high (by omega))
  replace s5 := cell_only s5 hon (by first | exact hR4.low (by omega) | exact hR4.high (by omega))
  replace s6 := cell_only s6 hon (by first | exact hR4.low (by omega) | exact hR4.high (by omega))
  replace s7 := cell_only s7 hon (by first | exact hR4.low (by omega) | exact hR4.high (by omega))
  replace s8 := cell_only s8 hon (by first | exact hR4.low (by omega) | exact hR4.high (by omega))
  replace e0 := cell_only e0 hon (by first | exact hR4.low (by omega) | exact hR4.high (by omega))
  replace e1 := cell_only e1 hon (by first | exact hR4.low (by omega) | exact hR4.high (by omega))
  replace e2 := cell_only e2 hon (by first | exact hR4.low (by omega) | exact hR4.high (by omega))
  replace e3 := cell_only e3 hon (by first | exact hR4.low (by omega) | exact hR4.high (by omega))
  replace e4 := cell_only e4 hon (by first | exact hR4.low (by omega) | exact hR4.high (by omega))
  replace e5 := cell_only e5 hon (by first | exact hR4.low (by omega) | exact hR4.high (by omega))
  replace e6 := cell_only e6 hon (by first | exact hR4.low (by omega) | exact hR4.high (by omega))
  replace e7 := cell_only e7 hon (by first | exact hR4.low (by omega) | exact hR4.high (by omega))
  replace e8 := cell_only e8 hon (by first | exact hR4.low (by omega) | exact hR4.high (by omega))
  replace p0 := cell_only p0 hon (by first | exact hR4.low (by omega) | exact hR4.high (by omega))
  replace p1 := cell_only p1 hon (by first | exact hR4.low (by omega) | exact hR4.high (by omega))
  replace p2 := cell_only p2 hon (by first | exact hR4.low (by omega) | exact hR4.high (by omega))
  replace p3 := cell_only p3 hon (by first | exact hR4.low (by omega) | exact hR4.high (by omega))
  replace p4 := cell_only p4 hon (by first | exact hR4.low (by omega) | exact hR4.high (by omega))
  replace p5 := cell_only p5 hon (by first | exact hR4.low (by omega) | exact hR4.high (by omega))
  replace p6 := cell_only p6 hon (by first | exact hR4.low (by omega) | exact hR4.high (by omega))
  replace p7 := cell_only p7 hon (by first | exact hR4.low (by omega) | exact hR4.high (by omega))
  replace p8 := cell_only p8 hon (by first | exact hR4.low (by omega) | exact hR4.high (by omega))
  replace g0 := cell_only g0 hon (by first | exact hR4.low (by omega) | exact hR4.high (by omega))
  replace g1 := cell_only g1 hon (by first | exact hR4.low (by omega) | exact hR4.high (by omega))
  replace g2 := cell_only g2 hon (by first | exact hR4.low (by omega) | exact hR4.high (by omega))
  replace g3 := cell_only g3 hon (by first | exact hR4.low (by omega) | exact hR4.high (by omega))
  replace g4 := cell_only g4 hon (by first | exact hR4.low (by omega) | exact hR4.high (by omega))
  replace g5 := cell_only g5 hon (by first | exact hR4.low (by omega) | exact hR4.high (by omega))
  replace g6 := cell_only g6 hon (by first | exact hR4.low (by omega) | exact hR4.high (by omega))
  replace g7 := cell_only g7 hon (by first | exact hR4.low (by omega) | exact hR4.high (by omega))
  replace g8 := cell_only g8 hon (by first | exact hR4.low (by omega) | exact hR4.high (by omega))
  replace hat := hat.only hon (hR4.apart hRA (by omega))
  replace hau := hau.only hon (hR4.apart hRV (by omega))
  replace hw6 := hw6.only hon (hR4.apart hRw (by omega))
  replace h5 := h5.only hon (hR4.apart hR5 (by omega))
  replace hg := hg.only hon (hR4.apart hR6 (by omega))
  replace hF : Forms _ := fun j hj => cell_only (hF j hj) hon (hR4.low (by omega))
  replace hf5 := hf5.only hon
  replace hfg := hfg.only hon
  replace hz := belowOnly hz hon (by have := hz.size; omega) (fun b hb => by have := (hR4 b hb).1; omega)
  clear hon
  go_wp2_with fail
  refine (markTerm_any u _ f5 (1 + t.num) _ _ h5 hf5.1 (fun b hb => (hf5.2 b hb).2.2) rfl hnumu).mono ?_
  rintro e y13 ⟨rfl, _, hon⟩
  clear p0 p1 p2 p3 p4 p5 p6 p7 p8 h5 hf5
  replace x0 := cell_only x0 hon (by first | exact hR5.low (by omega) | exact hR5.high (by omega))
  replace x1 := cell_only x1 hon (by first | exact hR5.low (by omega) | exact hR5.high (by omega))
  replace x2 := cell_only x2 hon (by first | exact hR5.low (by omega) | exact hR5.high (by omega))
  replace x3 := cell_only x3 hon (by first | exact hR5.low (by omega) | exact hR5.high (by omega))
  replace x4 := cell_only x4 hon (by first | exact hR5.low (by omega) | exact hR5.high (by omega))
  replace x5 := cell_only x5 hon (by first | exact hR5.low (by omega) | exact hR5.high (by omega))
  replace x6 := cell_only x6 hon (by first | exact hR5.low (by omega) | exact hR5.high (by omega))
  replace x7 := cell_only x7 hon (by first | exact hR5.low (by omega) | exact hR5.high (by omega))
  replace x8 := cell_only x8 hon (by first | exact hR5.low (by omega) | exact hR5.high (by omega))
  replace s0 := cell_only s0 hon (by first | exact hR5.low (by omega) | exact hR5.high (by omega))
  replace s1 := cell_only s1 hon (by first | exact hR5.low (by omega) | exact hR5.high (by omega))
  replace s2 := cell_only s2 hon (by first | exact hR5.low (by omega) | exact hR5.high (by omega))
  replace s3 := cell_only s3 hon (by first | exact hR5.low (by omega) | exact hR5.high (by omega))
  replace s4 := cell_only s4 hon (by first | exact hR5.low (by omega) | exact hR5.high (by omega))
  replace s5 := cell_only s5 hon (by first | exact hR5.low (by omega) | exact hR5.high (by omega))
  replace s6 := cell_only s6 hon (by first | exact hR5.low (by omega) | exact hR5.high (by omega))
  replace s7 := cell_only s7 hon (by first | exact hR5.low (by omega) | exact hR5.high (by omega))
  replace s8 := cell_only s8 hon (by first | exact hR5.low (by omega) | exact hR5.high (by omega))
  replace e0 := cell_only e0 hon (by first | exact hR5.low (by omega) | exact hR5.high (by omega))
  replace e1 := cell_only e1 hon (by first | exact hR5.low (by omega) | exact hR5.high (by omega))
  replace e2 := cell_only e2 hon (by first | exact hR5.low (by omega) | exact hR5.high (by omega))
  replace e3 := cell_only e3 hon (by first | exact hR5.low (by omega) | exact hR5.high (by omega))
  replace e4 := cell_only e4 hon (by first | exact hR5.low (by omega) | exact hR5.high (by omega))
  replace e5 := cell_only e5 hon (by first | exact hR5.low (by omega) | exact hR5.high (by omega))
  replace e6 := cell_only e6 hon (by first | exact hR5.low (by omega) | exact hR5.high (by omega))
  replace e7 := cell_only e7 hon (by first | exact hR5.low (by omega) | exact hR5.high (by omega))
  replace e8 := cell_only e8 hon (by first | exact hR5.low (by omega) | exact hR5.high (by omega))
  replace g0 := cell_only g0 hon (by first | exact hR5.low (by omega) | exact hR5.high (by omega))
  replace g1 := cell_only g1 hon (by first | exact hR5.low (by omega) | exact hR5.high (by omega))
  replace g2 := cell_only g2 hon (by first | exact hR5.low (by omega) | exact hR5.high (by omega))
  replace g3 := cell_only g3 hon (by first | exact hR5.low (by omega) | exact hR5.high (by omega))
  replace g4 := cell_only g4 hon (by first | exact hR5.low (by omega) | exact hR5.high (by omega))
  replace g5 := cell_only g5 hon (by first | exact hR5.low (by omega) | exact hR5.high (by omega))
  replace g6 := cell_only g6 hon (by first | exact hR5.low (by omega) | exact hR5.high (by omega))
  replace g7 := cell_only g7 hon (by first | exact hR5.low (by omega) | exact hR5.high (by omega))
  replace g8 := cell_only g8 hon (by first | exact hR5.low (by omega) | exact hR5.high (by omega))
  replace hat := hat.only hon (hR5.apart hRA (by omega))
  replace hau := hau.only hon (hR5.apart hRV (by omega))
  replace hw6 := hw6.only hon (hR5.apart hRw (by omega))
  replace hg := hg.only hon (hR5.apart hR6 (by omega))
  replace hF : Forms _ := fun j hj => cell_only (hF j hj) hon (hR5.low (by omega))
  replace hfg := hfg.only hon
  replace hz := belowOnly hz hon (by have := hz.size; omega) (fun b hb => by have := (hR5 b hb).1; omega)
  clear hon
  go_wp2_with fail
  refine (eqTerm_any E _ _ _ _ _ hg hw6).mono ?_
  rintro e y14 ⟨rfl, hb⟩
  replace x0 := cell_keep x0 hb
  replace x1 := cell_keep x1 hb
  replace x2 := cell_keep x2 hb
  replace x3 := cell_keep x3 hb
  replace x4 := cell_keep x4 hb
  replace x5 := cell_keep x5 hb
  replace x6 := cell_keep x6 hb
  replace x7 := cell_keep x7 hb
  replace x8 := cell_keep x8 hb
  replace s0 := cell_keep s0 hb
  replace s1 := cell_keep s1 hb
  replace s2 := cell_keep s2 hb
  replace s3 := cell_keep s3 hb
  replace s4 := cell_keep s4 hb
  replace s5 := cell_keep s5 hb
  replace s6 := cell_keep s6 hb
  replace s7 := cell_keep s7 hb
  replace s8 := cell_keep s8 hb
  replace e0 := cell_keep e0 hb
  replace e1 := cell_keep e1 hb
  replace e2 := cell_keep e2 hb
  replace e3 := cell_keep e3 hb
  replace e4 := cell_keep e4 hb
  replace e5 := cell_keep e5 hb
  replace e6 := cell_keep e6 hb
  replace e7 := cell_keep e7 hb
  replace e8 := cell_keep e8 hb
  replace g0 := cell_keep g0 hb
  replace g1 := cell_keep g1 hb
  replace g2 := cell_keep g2 hb
  replace g3 := cell_keep g3 hb
  replace g4 := cell_keep g4 hb
  replace g5 := cell_keep g5 hb
  replace g6 := cell_keep g6 hb
  replace g7 := cell_keep g7 hb
  replace g8 := cell_keep g8 hb
  replace hat := hat.below hb
  replace hau := hau.below hb
  replace hF := hF.below hb
  replace hw6 := hw6.below hb
  replace hg := hg.below hb
  replace hfg := hfg.below hb
  replace hz := below_trans hz hb
  clear hb
  go_wp2_with fail
  refine (markTerm_any E _ fg 1 _ _ hg hfg.1 (fun b hb => (hfg.2 b hb).2.2) rfl hnum2).mono ?_
  rintro e y15 ⟨rfl, hg, hon⟩
  replace x0 := cell_only x0 hon (by first | exact hR6.low (by omega) | exact hR6.high (by omega))
  replace x1 := cell_only x1 hon (by first | exact hR6.low (by omega) | exact hR6.high (by omega))
  replace x2 := cell_only x2 hon (by first | exact hR6.low (by omega) | exact hR6.high (by omega))
  replace x3 := cell_only x3 hon (by first | exact hR6.low (by omega) | exact hR6.high (by omega))
  replace x4 := cell_only x4 hon (by first | exact hR6.low (by omega) | exact hR6.high (by omega))
  replace x5 := cell_only x5 hon (by first | exact hR6.low (by omega) | exact hR6.high (by omega))
  replace x6 := cell_only x6 hon (by first | exact hR6.low (by omega) | exact hR6.high (by omega))
  replace x7 := cell_only x7 hon (by first | exact hR6.low (by omega) | exact hR6.high (by omega))
  replace x8 := cell_only x8 hon (by first | exact hR6.low (by omega) | exact hR6.high (by omega))
  replace s0 := cell_only s0 hon (by first | exact hR6.low (by omega) | exact hR6.high (by omega))
  replace s1 := cell_only s1 hon (by first | exact hR6.low (by omega) | exact hR6.high (by omega))
  replace s2 := cell_only s2 hon (by first | exact hR6.low (by omega) | exact hR6.high (by omega))
  replace s3 := cell_only s3 hon (by first | exact hR6.low (by omega) | exact hR6.high (by omega))
  replace s4 := cell_only s4 hon (by first | exact hR6.low (by omega) | exact hR6.high (by omega))
  replace s5 := cell_only s5 hon (by first | exact hR6.low (by omega) | exact hR6.high (by omega))
  replace s6 := cell_only s6 hon (by first | exact hR6.low (by omega) | exact hR6.high (by omega))
  replace s7 := cell_only s7 hon (by first | exact hR6.low (by omega) | exact hR6.high (by omega))
  replace s8 := cell_only s8 hon (by first | exact hR6.low (by omega) | exact hR6.high (by omega))
  replace e0 := cell_only e0 hon (by first | exact hR6.low (by omega) | exact hR6.high (by omega))
  replace e1 := cell_only e1 hon (by first | exact hR6.low (by omega) | exact hR6.high (by omega))
  replace e2 := cell_only e2 hon (by first | exact hR6.low (by omega) | exact hR6.high (by omega))
  replace e3 := cell_only e3 hon (by first | exact hR6.low (by omega) | exact hR6.high (by omega))
  replace e4 := cell_only e4 hon (by first | exact hR6.low (by omega) | exact hR6.high (by omega))
  replace e5 := cell_only e5 hon (by first | exact hR6.low (by omega) | exact hR6.high (by omega))
  replace e6 := cell_only e6 hon (by first | exact hR6.low (by omega) | exact hR6.high (by omega))
  replace e7 := cell_only e7 hon (by first | exact hR6.low (by omega) | exact hR6.high (by omega))
  replace e8 := cell_only e8 hon (by first | exact hR6.low (by omega) | exact hR6.high (by omega))
  replace g0 := cell_only g0 hon (by first | exact hR6.low (by omega) | exact hR6.high (by omega))
  replace g1 := cell_only g1 hon (by first | exact hR6.low (by omega) | exact hR6.high (by omega))
  replace g2 := cell_only g2 hon (by first | exact hR6.low (by omega) | exact hR6.high (by omega))
  replace g3 := cell_only g3 hon (by first | exact hR6.low (by omega) | exact hR6.high (by omega))
  replace g4 := cell_only g4 hon (by first | exact hR6.low (by omega) | exact hR6.high (by omega))
  replace g5 := cell_only g5 hon (by first | exact hR6.low (by omega) | exact hR6.high (by omega))
  replace g6 := cell_only g6 hon (by first | exact hR6.low (by omega) | exact hR6.high (by omega))
  replace g7 := cell_only g7 hon (by first | exact hR6.low (by omega) | exact hR6.high (by omega))
  replace g8 := cell_only g8 hon (by first | exact hR6.low (by omega) | exact hR6.high (by omega))
  replace hat := hat.only hon (hR6.apart hRA (by omega))
  replace hau := hau.only hon (hR6.apart hRV (by omega))
  replace hw6 := hw6.only hon (hR6.apart hRw (by omega))
  replace hF : Forms _ := fun j hj => cell_only (hF j hj) hon (hR6.low (by omega))
  replace hz := belowOnly hz hon (by have := hz.size; omega) (fun b hb => by have := (hR6 b hb).1; omega)
  clear hon hfg
  go_wp2_with fail
  refine (heldTerm_any E _ fg 1 _ _ hg rfl hnum2).mono ?_
  rintro e y16 ⟨rfl, hb⟩
  replace x0 := cell_keep x0 hb
  replace x1 := cell_keep x1 hb
  replace x2 := cell_keep x2 hb
  replace x3 := cell_keep x3 hb
  replace x4 := cell_keep x4 hb
  replace x5 := cell_keep x5 hb
  replace x6 := cell_keep x6 hb
  replace x7 := cell_keep x7 hb
  replace x8 := cell_keep x8 hb
  replace s0 := cell_keep s0 hb
  replace s1 := cell_keep s1 hb
  replace s2 := cell_keep s2 hb
  replace s3 := cell_keep s3 hb
  replace s4 := cell_keep s4 hb
  replace s5 := cell_keep s5 hb
  replace s6 := cell_keep s6 hb
  replace s7 := cell_keep s7 hb
  replace s8 := cell_keep s8 hb
  replace e0 := cell_keep e0 hb
  replace e1 := cell_keep e1 hb
  replace e2 := cell_keep e2 hb
  replace e3 := cell_keep e3 hb
  replace e4 := cell_keep e4 hb
  replace e5 := cell_keep e5 hb
  replace e6 := cell_keep e6 hb
  replace e7 := cell_keep e7 hb
  replace e8 := cell_keep e8 hb
  replace g0 := cell_keep g0 hb
  replace g1 := cell_keep g1 hb
  replace g2 := cell_keep g2 hb
  replace g3 := cell_keep g3 hb
  replace g4 := cell_keep g4 hb
  replace g5 := cell_keep g5 hb
  replace g6 := cell_keep g6 hb
  replace g7 := cell_keep g7 hb
  replace g8 := cell_keep g8 hb
  replace hat := hat.below hb
  replace hau := hau.below hb
  replace hF := hF.below hb
  replace hw6 := hw6.below hb
  replace hg := hg.below hb
  replace hz := below_trans hz hb
  clear hb
  go_wp2_with fail
  go_cut [15, 16] (fun sa sb wx => ∃ (b6 : Nat) (k3 : Int) (nm3 : ByteArray) (num3 : Int) (k13 : Int) (n13 : Nat) (a13 : Option Addr) (c13 : Nat) (k23 : Int) (n23 : Nat) (a23 : Option Addr) (c23 : Nat) (lb3 : Int) (n33 : Nat) (a33 : Option Addr) (c33 : Nat) (g3 : List Nat), sa = .pointer (some ⟨b6, 0, none⟩) ∧ sb = .bool ok ∧ Below y16.heap.size y16 wx ∧ wx.heap[b6]? = some (Obj.cells #[.int .i64 k3, .string nm3, .int .i64 num3, .int .i64 k13, .slice a13 n13 c13, .int .i64 k23, .slice a23 n23 c23, .int .i64 lb3, .slice a33 n33 c33] 35) ∧ E.At wx (Value.agg #[.int .i64 k3, .string nm3, .int .i64 num3, .int .i64 k13, .slice a13 n13 c13, .int .i64 k23, .slice a23 n23 c23, .int .i64 lb3, .slice a33 n33 c33]) g3)
  case first =>
    go_region_held3 (fun w' => Below y16.heap.size y16 w' ∧ w'.cell? ⟨w.heap.size, 0, none⟩ = some (.int .i64 k) ∧ w'.cell? ⟨w.heap.size, 1, none⟩ = some (.string nm) ∧ w'.cell? ⟨w.heap.size, 2, none⟩ = some (.int .i64 num) ∧ w'.cell? ⟨w.heap.size, 3, none⟩ = some (.int .i64 k1) ∧ w'.cell? ⟨w.heap.size, 4, none⟩ = some (.slice a1 n1 c1) ∧ w'.cell? ⟨w.heap.size, 5, none⟩ = some (.int .i64 k2) ∧ w'.cell? ⟨w.heap.size, 6, none⟩ = some (.slice a2 n2 c2) ∧ w'.cell? ⟨w.heap.size, 7, none⟩ = some (.int .i64 lb) ∧ w'.cell? ⟨w.heap.size, 8, none⟩ = some (.slice a3 n3 c3) ∧ w'.cell? ⟨(w.heap.size + 1), 0, none⟩ = some (.int .i64 kv) ∧ w'.cell? ⟨(w.heap.size + 1), 1, none⟩ = some (.string nmv) ∧ w'.cell? ⟨(w.heap.size + 1), 2, none⟩ = some (.int .i64 numv) ∧ w'.cell? ⟨(w.heap.size + 1), 3, none⟩ = some (.int .i64 k1v) ∧ w'.cell? ⟨(w.heap.size + 1), 4, none⟩ = some (.slice a1v n1v c1v) ∧ w'.cell? ⟨(w.heap.size + 1), 5, none⟩ = some (.int .i64 k2v) ∧ w'.cell? ⟨(w.heap.size + 1), 6, none⟩ = some (.slice a2v n2v c2v) ∧ w'.cell? ⟨(w.heap.size + 1), 7, none⟩ = some (.int .i64 lbv) ∧ w'.cell? ⟨(w.heap.size + 1), 8, none⟩ = some (.slice a3v n3v c3v))
      ((refine (fun hB => ⟨hB, cell_keep x0 hB, cell_keep x1 hB, cell_keep x2 hB, cell_keep x3 hB, cell_keep x4 hB, cell_keep x5 hB, cell_keep x6 hB, cell_keep x7 hB, cell_keep x8 hB, cell_keep s0 hB, cell_keep s1 hB, cell_keep s2 hB, cell_keep s3 hB, cell_keep s4 hB, cell_keep s5 hB, cell_keep s6 hB, cell_keep s7 hB, cell_keep s8 hB⟩ : Below y16.heap.size y16 _ → _) ?_; (first | with_reducible exact below_drew y16 | with_reducible exact hk3 | with_reducible exact hk2 | with_reducible exact hk1 | with_reducible exact S9 | (go_split_ands; first | with_reducible exact Below.alloc (by with_reducible assumption) (Below.size (by with_reducible assumption)) _ | exact Below.alloc (by with_reducible assumption) (Below.size (by with_reducible assumption)) _))))
      (first
        | (go_at_call_of 12 (Value.agg #[.int .i64 k, .string nm, .int .i64 num, .int .i64 k1, .slice a1 n1 c1, .int .i64 k2, .slice a2 n2 c2, .int .i64 lb, .slice a3 n3 c3]); go_split_ands; refine (toTerm_any t _ _ _ (hat.below (by assumption)) hc).mono ?_; rintro e y1 ⟨u1, g1, rfl, hu1, hg1, hy1⟩; have hk1 : Below y16.heap.size y16 y1 := below_trans (by assumption) hy1; (first | have Q1 : y1.heap[y16.heap.size]? = some (Obj.cells #[.int .i64 0, .string ByteArray.empty, .int .i64 0, .int .i64 0, .slice none 0 0, .int .i64 0, .slice none 0 0, .int .i64 0, .slice none 0 0] 35) := (hy1.block y16.heap.size (by first | (show y16.heap.size < (y16.alloc _).heap.size; simp) | simp)).trans (alloc_new y16 _) | skip))
        | (go_at_call_of 12 (Value.agg #[.int .i64 kv, .string nmv, .int .i64 numv, .int .i64 k1v, .slice a1v n1v c1v, .int .i64 k2v, .slice a2v n2v c2v, .int .i64 lbv, .slice a3v n3v c3v]); go_split_ands; refine (toTerm_any u _ _ _ (hau.below (by assumption)) hcu).mono ?_; rintro e y2 ⟨u2, g2, rfl, hu2, hg2, hy2⟩; have hk2 : Below y16.heap.size y16 y2 := below_trans (by assumption) hy2; (first | have hu1' := hu1.below hy2 | have hu1' := hu1.below (alloc1 hy2)); (first | have Q2 := (hy2.block _ (lt_of_block Q1)).trans Q1 | have Q2 := (hy2.block y1.heap.size (by simp)).trans (alloc_new y1 _) | skip))
        | (go_at_call 30; go_split_ands; refine (HIM.out _ _ _ _ _ (by first | exact hF.below hk2 | exact hF.below (hk2.alloc (by have := hk2.size; omega) _)) (by first | exact hu1' | exact hu1'.below ((Below.refl _ _).alloc (Nat.le_refl _) _)) (by first | exact hu2 | exact hu2.below ((Below.refl _ _).alloc (Nat.le_refl _) _))).mono ?_; rintro e y3 ⟨u3, g3, rfl, hu3, hg3, hy3⟩; obtain ⟨k3, nm3, num3, k13, n13, a13, c13, k23, n23, a23, c23, lb3, n33, a33, c33, rfl⟩ := hu3.agg; have hk3 : Below y16.heap.size y16 y3 := below_trans (by assumption) hy3; (first | have Q3 := (hy3.block _ (lt_of_block Q2)).trans Q2 | have Q3 := (hy3.block y2.heap.size (by simp)).trans (alloc_new y2 _) | skip); (first | (have f0 := (fun o => frozen_of_block (o := o) Q3); obtain ⟨d0, d1, d2, d3, d4, d5, d6, d7, d8⟩ := cells9 Q3; have S9 := nine_below (.int .i64 k3) (.string nm3) (.int .i64 num3) (.int .i64 k13) (.slice a13 n13 c13) (.int .i64 k23) (.slice a23 n23 c23) (.int .i64 lb3) (.slice a33 n33 c33) Q3 hk3 (by first | exact hk2.size | exact hk1.size | exact Nat.le_refl _)) | skip)))
    all_goals
      repeat (rename (World.cell? _ _ = some _) => hq; clear hq)
      go_wp2_with fail
      go_meet
      refine ⟨_, k3, nm3, num3, k13, n13, a13, c13, k23, n23, a23, c23, lb3, n33, a33, c33, g3, (by with_reducible rfl), (by with_reducible rfl), (by first | with_reducible exact S9 | with_reducible exact hk3 | with_reducible exact hk3.alloc hk3.size _), ?_⟩
      first
        | with_reducible exact nine_at (.int .i64 k3) (.string nm3) (.int .i64 num3) (.int .i64 k13) (.slice a13 n13 c13) (.int .i64 k23) (.slice a23 n23 c23) (.int .i64 lb3) (.slice a33 n33 c33) Q3 hu3 hg3 (by first | exact Nat.lt_of_lt_of_le (lt_of_block Q2) (Nat.le_refl _) | exact Nat.lt_of_lt_of_le (lt_of_block Q2) (by simp) | (simp; done))
        | with_reducible exact ⟨alloc_new _ _, hu3.below ((Below.refl _ _).alloc (Nat.le_refl _) _)⟩
  case rest =>
  obtain ⟨b8, k8, nm8, num8, k18, n18, a18, c18, k28, n28, a28, c28, lb8, n38, a38, c38, f8, rfl, rfl, hb, hB8, hw8⟩ := hcut
  obtain ⟨d0, d1, d2, d3, d4, d5, d6, d7, d8⟩ := cells9 hB8
  replace x0 := cell_keep x0 hb
  replace x1 := cell_keep x1 hb
  replace x2 := cell_keep x2 hb
  replace x3 := cell_keep x3 hb
  replace x4 := cell_keep x4 hb
  replace x5 := cell_keep x5 hb
  replace x6 := cell_keep x6 hb
  replace x7 := cell_keep x7 hb
  replace x8 := cell_keep x8 hb
  replace s0 := cell_keep s0 hb
  replace s1 := cell_keep s1 hb
  replace s2 := cell_keep s2 hb
  replace s3 := cell_keep s3 hb
  replace s4 := cell_keep s4 hb
  replace s5 := cell_keep s5 hb
  replace s6 := cell_keep s6 hb
  replace s7 := cell_keep s7 hb
  replace s8 := cell_keep s8 hb
  replace e0 := cell_keep e0 hb
  replace e1 := cell_keep e1 hb
  replace e2 := cell_keep e2 hb
  replace e3 := cell_keep e3 hb
  replace e4 := cell_keep e4 hb
  replace e5 := cell_keep e5 hb
  replace e6 := cell_keep e6 hb
  replace e7 := cell_keep e7 hb
  replace e8 := cell_keep e8 hb
  replace g0 := cell_keep g0 hb
  replace g1 := cell_keep g1 hb
  replace g2 := cell_keep g2 hb
  replace g3 := cell_keep g3 hb
  replace g4 := cell_keep g4 hb
  replace g5 := cell_keep g5 hb
  replace g6 := cell_keep g6 hb
  replace g7 := cell_keep g7 hb
  replace g8 := cell_keep g8 hb
  replace hat := hat.below hb
  replace hau := hau.below hb
  replace hF := hF.below hb
  replace hw6 := hw6.below hb
  replace hg := hg.below hb
  replace hz := below_trans hz hb
  clear hb hB8
  go_wp2_with fail
  refine (eqTerm_any E _ _ _ _ _ hw8 hw6).mono ?_
  rintro e y19 ⟨rfl, hb⟩
  replace x0 := cell_keep x0 hb
  replace x1 := cell_keep x1 hb
  replace x2 := cell_keep x2 hb
  replace x3 := cell_keep x3 hb
  replace x4 := cell_keep x4 hb
  replace x5 := cell_keep x5 hb
  replace x6 := cell_keep x6 hb
  replace x7 := cell_keep x7 hb
  replace x8 := cell_keep x8 hb
  replace s0 := cell_keep s0 hb
  replace s1 := cell_keep s1 hb
  replace s2 := cell_keep s2 hb
  replace s3 := cell_keep s3 hb
  replace s4 := cell_keep s4 hb
  replace s5 := cell_keep s5 hb
  replace s6 := cell_keep s6 hb
  replace s7 := cell_keep s7 hb
  replace s8 := cell_keep s8 hb
  replace e0 := cell_keep e0 hb
  replace e1 := cell_keep e1 hb
  replace e2 := cell_keep e2 hb
  replace e3 := cell_keep e3 hb
  replace e4 := cell_keep e4 hb
  replace e5 := cell_keep e5 hb
  replace e6 := cell_keep e6 hb
  replace e7 := cell_keep e7 hb
  replace e8 := cell_keep e8 hb
  replace g0 := cell_keep g0 hb
  replace g1 := cell_keep g1 hb
  replace g2 := cell_keep g2 hb
  replace g3 := cell_keep g3 hb
  replace g4 := cell_keep g4 hb
  replace g5 := cell_keep g5 hb
  replace g6 := cell_keep g6 hb
  replace g7 := cell_keep g7 hb
  replace g8 := cell_keep g8 hb
  replace hat := hat.below hb
  replace hau := hau.below hb
  replace hF := hF.below hb
  replace hw6 := hw6.below hb
  replace hg := hg.below hb
  replace hz := below_trans hz hb
  clear hb
  go_wp2_with fail
  refine (heldTerm_any E _ fg 1 _ _ hg rfl hnum2).mono ?_
  rintro e y20 ⟨rfl, hb⟩
  replace hz := below_trans hz hb
  go_wp2_with fail
  go_ret
  exact ⟨rfl, hz⟩
end Go.Proofs.YtffmpjcjmffdeaaDoor

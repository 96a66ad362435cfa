/- The law on TypeIn: it returns true and writes nothing that was there. -/
import Derived.Deep.RegionHeld3
import Derived.Test.YtffmpjcjmffdeaaDoorQTs7
import Derived.Test.YtffmpjcjmffdeaaDoorQTyI
import Derived.Test.YtffmpjcjmffdeaaDoorQG36
import Derived.Test.YtffmpjcjmffdeaaDoorQPkB
namespace Go.Proofs.YtffmpjcjmffdeaaDoor
open Go.RowKit

/-- A block of two cells, written: what it holds, and a tree beside it. -/
theorem two_at9 {y3 : World} {b B : Nat} {c0 c1 x y v : Value} {t : Ty} {g : List Nat} (Q : y3.heap[b]? = some (.cells #[c0, c1] 32 (0, 0))) (hu : t.At y3 v g) (hg : Fresh B y3 g) (hb : b < B) :
    ((y3.setCell ⟨b, 0, none⟩ x).setCell ⟨b, 1, none⟩ y).cell? ⟨b, 0, none⟩ = some x ∧ ((y3.setCell ⟨b, 0, none⟩ x).setCell ⟨b, 1, none⟩ y).cell? ⟨b, 1, none⟩ = some y ∧ t.At ((y3.setCell ⟨b, 0, none⟩ x).setCell ⟨b, 1, none⟩ y) v g := by
  have h2 : t.At (put y3 b 0 [x, y]) v g := hu.putne (fun k hk => by have := (hg.2 k hk).1; omega)
  exact ⟨by rw [cell_of_block (heap_setCell_at (heap_setCell_at Q _) _)]; rfl, by rw [cell_of_block (heap_setCell_at (heap_setCell_at Q _) _)]; rfl, h2⟩

theorem one_at9 {y3 : World} {x y v : Value} {T : TypeId} {t : Ty} {g : List Nat} (hu : t.At y3 v g) :
    (y3.alloc (Obj.cells #[x, y] T)).cell? ⟨y3.heap.size, 0, none⟩ = some x ∧ (y3.alloc (Obj.cells #[x, y] T)).cell? ⟨y3.heap.size, 1, none⟩ = some y ∧ t.At (y3.alloc (Obj.cells #[x, y] T)) v g :=
  ⟨by rw [cell_of_block (alloc_new _ _)]; rfl, by rw [cell_of_block (alloc_new _ _)]; rfl, hu.below ((Below.refl _ _).alloc (Nat.le_refl _) _)⟩

set_option linter.unusedSimpArgs false in
set_option linter.unusedVariables false in
set_option maxHeartbeats 16000000 in
set_option maxRecDepth 100000 in
theorem lawTypeIn (xs : List Bd) (s : Value) (fs : List Nat) (t : Tm) (v : Value) (fp : List Nat) (w : World) (hF : Forms w) (hs : BsAt w xs s fs) (hat : t.At w v fp) :
    Calls Tryd.prog 4 #[s, v] w fun e w' => e = .returned (.bool true) ∧ Below w.heap.size w w' := by
  obtain ⟨aX, capX, rfl⟩ := hs.shape
  obtain ⟨k, nm, num, k1, n1, a1, c1, k2, n2, a2, c2, lb, n3, a3, c3, rfl⟩ := hat.agg
  have hlA := hat.lt
  have hlS := hs.lt
  have hF0 : 0 < w.heap.size := World.block_lt_of_cell? _ _ (hF 0 (by omega))
  have hb0 : Below w.heap.size w (w.alloc (Obj.cells #[.int .i64 k, .string nm, .int .i64 num, .int .i64 k1, .slice a1 n1 c1, .int .i64 k2, .slice a2 n2 c2, .int .i64 lb, .slice a3 n3 c3] 27)) := (Below.refl _ _).alloc (Nat.le_refl _) _
  by_cases hcB : xs.length + szB xs ≤ 1048576
  case neg =>
    have HS := hid (show left0 (xs.length + szB xs) 1048576 = -1 by unfold left0; rw [if_neg (by omega)])
    go_enter Tryd.func4, Tryd.ntmps4
    go_wp2_with fail
    refine (szBindS_any xs _ fs 1048576 _ (by omega) (by omega) (hs.below hb0)).mono ?_
    rw [HS.out]
    rintro e w1 ⟨rfl, hb1⟩
    go_wp2_with fail
    go_ret
    exact ⟨rfl, below_trans hb0 hb1⟩
  have hposB : (0 : Int) ≤ 1048576 - ((xs.length + szB xs : Nat) : Int) := by omega
  have HSB := hid (show left0 (xs.length + szB xs) 1048576 = 1048576 - ((xs.length + szB xs : Nat) : Int) by unfold left0; rw [if_pos (by omega)])
  have HCB := hid hcB
  have hnB := numB_sz xs
  have hnumB : 1 + numB xs ≤ 4194304 := by omega
  have hNN : 0 ≤ ((xs.length + szB xs : Nat) : Int) := by omega
  generalize ((xs.length + szB xs : Nat) : Int) = NN at *
  clear hcB hnB
  by_cases hc2 : (t.sz : Int) ≤ 1048576 - NN
  case neg =>
    have HS := hid (show szM t.sz (1048576 - NN) = -1 by unfold szM; rw [if_neg (by omega)])
    go_enter Tryd.func4, Tryd.ntmps4
    go_wp2_with fail
    refine (szBindS_any xs _ fs 1048576 _ (by omega) (by omega) (hs.below hb0)).mono ?_
    rw [HSB.out]
    rintro e w1 ⟨rfl, hb1⟩
    obtain ⟨x0, x1, x2, x3, x4, x5, x6, x7, x8⟩ := box9 hb1
    go_wp2_with fail
    refine (szTerm_any t _ fp _ _ (by omega) (by omega) (hat.below (below_trans hb0 hb1))).mono ?_
    rw [HS.out]
    rintro e w2 ⟨rfl, hb2⟩
    go_wp2_with fail
    go_ret
    exact ⟨rfl, below_trans hb0 (below_trans hb1 hb2)⟩
  have HS := hid (show szM t.sz (1048576 - NN) = 1048576 - NN - (t.sz : Int) by unfold szM; rw [if_pos (by omega)])
  have hpos : (0 : Int) ≤ 1048576 - NN - (t.sz : Int) := by omega
  have hc : t.sz ≤ 1048576 := by omega
  have hnt := num_le t
  have hnum : 1 + numB xs + t.num ≤ 1073741824 := by omega
  have hn3 : ((tyInO xs t).getD (.mk 0 [])).cnt ≤ 2097152 := tyInO_cnt xs t
  have hp1 : (0 : Int) ≤ ((1 + numB xs : Nat) : Int) := by omega
  have hp2 : (0 : Int) ≤ ((1 + numB xs + t.num : Nat) : Int) := by omega
  have HSP := hid (fun (s : Value) (fs : List Nat) (v : Value) (fp : List Nat) (w : World) (hs : BsAt w xs s fs) (h : t.At w v fp) => specTypeIn xs s fs t v fp w hc hs h)
  have HIM := hid (fun (s : Value) (fs : List Nat) (v : Value) (fp : List Nat) (w : World) (hF : Forms w) (hs : BsAt w xs s fs) (h : t.At w v fp) => implTypeIn xs s fs t v fp w hF hs h)
  have HNUM := hid hnum
  have HNB := hid hnumB
  clear hnt hnum hnumB
  generalize (tyInO xs t).getD (.mk 0 []) = E at *
  generalize (tyInO xs t).isSome = ok at *
  go_enter Tryd.func4, Tryd.ntmps4
  go_wp2_with fail
  refine (szBindS_any xs _ fs 1048576 _ (by omega) (by omega) (hs.below hb0)).mono ?_
  rw [HSB.out]
  rintro e w1 ⟨rfl, hb1⟩
  have hz := below_trans hb0 hb1
  replace hat := hat.below hz
  replace hs := hs.below hz
  replace hF := hF.below hz
  obtain ⟨x0, x1, x2, x3, x4, x5, x6, x7, x8⟩ := box9 hb1
  clear hb0 hb1
  go_wp2_with fail
  refine (szTerm_any t _ fp _ _ (by omega) (by omega) hat).mono ?_
  rw [HS.out]
  rintro e z1 ⟨rfl, hb⟩
  replace x0 := cell_keep x0 hb
  replace x1 := cell_keep x1 hb
  replace x2 := cell_keep x2 hb
  replace x3 := cell_keep x3 hb
  replace x4 := cell_keep x4 hb
  replace x5 := cell_keep x5 hb
  replace x6 := cell_keep x6 hb
  replace x7 := cell_keep x7 hb
  replace x8 := cell_keep x8 hb
  replace hat := hat.below hb
  replace hs := hs.below hb
  replace hF := hF.below hb
  replace hz := below_trans hz hb
  clear hb
  go_wp2_with fail
  go_cut [6, 7] (fun sa sb wx => ∃ (b6 : Nat) (k3 : Int) (n3 : Nat) (c3 : Option Addr) (cap3 : Nat) (g3 : List Nat), sa = .pointer (some ⟨b6, 0, none⟩) ∧ sb = .bool ok ∧ Below z1.heap.size z1 wx ∧ wx.cell? ⟨b6, 0, none⟩ = some (.int .i64 k3) ∧ wx.cell? ⟨b6, 1, none⟩ = some (.slice c3 n3 cap3) ∧ E.At wx (.agg #[.int .i64 k3, .slice c3 n3 cap3]) g3)
  case first =>
    go_region_held3 (fun w' => Below z1.heap.size z1 w' ∧ w'.cell? ⟨w.heap.size, 0, none⟩ = some (.int .i64 k) ∧ w'.cell? ⟨w.heap.size, 1, none⟩ = some (.string nm) ∧ w'.cell? ⟨w.heap.size, 2, none⟩ = some (.int .i64 num) ∧ w'.cell? ⟨w.heap.size, 3, none⟩ = some (.int .i64 k1) ∧ w'.cell? ⟨w.heap.size, 4, none⟩ = some (.slice a1 n1 c1) ∧ w'.cell? ⟨w.heap.size, 5, none⟩ = some (.int .i64 k2) ∧ w'.cell? ⟨w.heap.size, 6, none⟩ = some (.slice a2 n2 c2) ∧ w'.cell? ⟨w.heap.size, 7, none⟩ = some (.int .i64 lb) ∧ w'.cell? ⟨w.heap.size, 8, none⟩ = some (.slice a3 n3 c3))
      ((refine (fun hB => ⟨hB, cell_keep x0 hB, cell_keep x1 hB, cell_keep x2 hB, cell_keep x3 hB, cell_keep x4 hB, cell_keep x5 hB, cell_keep x6 hB, cell_keep x7 hB, cell_keep x8 hB⟩ : Below z1.heap.size z1 _ → _) ?_; (first | exact below_drew z1 | exact hk3 | exact hk2 | exact hk1 | (go_split_ands; first | exact Below.alloc (by assumption) (Below.size (by assumption)) _ | exact Below.setCell (Below.setCell hk3 (by first | exact hk2.size | exact hk1.size | exact Nat.le_refl _) _) (by first | exact hk2.size | exact hk1.size | exact Nat.le_refl _) _))))
      (first
        | (go_at_call 17; go_split_ands; refine (toBindS_any xs _ fs _ (hs.below (by assumption)) HCB.out).mono ?_; rintro e y1 ⟨u1, g1, rfl, hu1, hg1, hy1⟩; have hk1 : Below z1.heap.size z1 y1 := below_trans (by assumption) hy1; (first | have Q1 : y1.heap[z1.heap.size]? = some (Obj.cells #[.int .i64 0, .slice none 0 0] 32) := (hy1.block z1.heap.size (by first | (show z1.heap.size < (z1.alloc _).heap.size; simp) | simp)).trans (alloc_new z1 _) | skip))
        | (go_at_call 12; go_split_ands; refine (toTerm_any t _ _ _ (hat.below (by assumption)) hc).mono ?_; rintro e y2 ⟨u2, g2, rfl, hu2, hg2, hy2⟩; have hk2 : Below z1.heap.size z1 y2 := below_trans (by assumption) hy2; (first | have hu1' := hu1.below hy2 | have hu1' := hu1.below (alloc1 hy2)); (first | have Q2 := (hy2.block _ (lt_of_block Q1)).trans Q1 | have Q2 := (hy2.block y1.heap.size (by simp)).trans (alloc_new y1 _) | skip))
        | (go_at_call 16; go_split_ands; refine (HSP.out _ _ _ _ _ (by first | exact hu1' | exact hu1'.below ((Below.refl _ _).alloc (Nat.le_refl _) _)) (by first | exact hu2 | exact hu2.below ((Below.refl _ _).alloc (Nat.le_refl _) _))).mono ?_; rintro e y3 ⟨u3, g3, rfl, hu3, hg3, hy3⟩; obtain ⟨k3, n3, c3, cap3, rfl⟩ := hu3.agg; have hk3 : Below z1.heap.size z1 y3 := below_trans (by assumption) hy3; (first | have Q3 := (hy3.block _ (lt_of_block Q2)).trans Q2 | have Q3 := (hy3.block y2.heap.size (by simp)).trans (alloc_new y2 _) | skip); (first | (have f0 := frozen_of_block (o := 0) Q3; have f1 := frozen_of_block (o := 1) Q3; have f2 := (cell_of_block (o := 0) Q3); have f3 := (cell_of_block (o := 1) Q3)) | skip)))
    all_goals
      go_wp2_with fail
      go_meet
      go_split_ands
      first
        | exact ⟨_, k3, n3, c3, cap3, g3, rfl, rfl, by assumption, one_at9 hu3⟩
        | exact ⟨_, k3, n3, c3, cap3, g3, rfl, rfl, by assumption, two_at9 Q3 hu3 hg3 (by first | exact Nat.lt_of_lt_of_le (lt_of_block Q2) (Nat.le_refl _) | exact Nat.lt_of_lt_of_le (lt_of_block Q2) (by simp) | (simp; done))⟩
  case rest =>
  obtain ⟨b6, k6, n6, c6, cap6, f6, rfl, rfl, hb, e0, e1, hw6⟩ := hcut
  replace x0 := cell_keep x0 hb
  replace x1 := cell_keep x1 hb
  replace x2 := cell_keep x2 hb
  replace x3 := cell_keep x3 hb
  replace x4 := cell_keep x4 hb
  replace x5 := cell_keep x5 hb
  replace x6 := cell_keep x6 hb
  replace x7 := cell_keep x7 hb
  replace x8 := cell_keep x8 hb
  replace hat := hat.below hb
  replace hs := hs.below hb
  replace hF := hF.below hb
  replace hz := below_trans hz hb
  have hSw : w.heap.size < wc.heap.size := World.block_lt_of_cell? _ _ x0
  have hlb6 : b6 < wc.heap.size := World.block_lt_of_cell? _ _ e0
  have hl6 := hw6.lt
  clear hb
  go_wp2_with fail
  refine (toBindS_any xs _ fs _ hs HCB.out).mono ?_
  rintro e y4 ⟨s4, f4, rfl, h4, hf4, hb⟩
  obtain ⟨a4, cap4, rfl⟩ := h4.shape
  have hR4 : Within wc.heap.size y4.heap.size f4 := hf4.within
  have hS4 : wc.heap.size ≤ y4.heap.size := hb.size
  replace x0 := cell_keep x0 hb
  replace x1 := cell_keep x1 hb
  replace x2 := cell_keep x2 hb
  replace x3 := cell_keep x3 hb
  replace x4 := cell_keep x4 hb
  replace x5 := cell_keep x5 hb
  replace x6 := cell_keep x6 hb
  replace x7 := cell_keep x7 hb
  replace x8 := cell_keep x8 hb
  replace e0 := cell_keep e0 hb
  replace e1 := cell_keep e1 hb
  replace hat := hat.below hb
  replace hs := hs.below hb
  replace hF := hF.below hb
  replace hw6 := hw6.below hb
  replace hz := below_trans hz hb
  clear hb
  go_wp2_with fail
  refine (toTerm_any t _ fp _ hat hc).mono ?_
  rintro e y5 ⟨v5, f5, rfl, h5, hf5, hb5⟩
  obtain ⟨k5, nm5, num5, k15, n15, a15, c15, k25, n25, a25, c25, lb5, n35, a35, c35, rfl⟩ := h5.agg
  have hb5a : Below y5.heap.size y5 (y5.alloc (Obj.cells #[.int .i64 k5, .string nm5, .int .i64 num5, .int .i64 k15, .slice a15 n15 c15, .int .i64 k25, .slice a25 n25 c25, .int .i64 lb5, .slice a35 n35 c35] 35)) := (Below.refl _ _).alloc (Nat.le_refl _) _
  have hR5 : Within y4.heap.size y5.heap.size f5 := hf5.within
  have hS5 : y4.heap.size ≤ y5.heap.size := hb5.size
  have hb := below_trans hb5 hb5a
  replace x0 := cell_keep x0 hb
  replace x1 := cell_keep x1 hb
  replace x2 := cell_keep x2 hb
  replace x3 := cell_keep x3 hb
  replace x4 := cell_keep x4 hb
  replace x5 := cell_keep x5 hb
  replace x6 := cell_keep x6 hb
  replace x7 := cell_keep x7 hb
  replace x8 := cell_keep x8 hb
  replace e0 := cell_keep e0 hb
  replace e1 := cell_keep e1 hb
  replace hat := hat.below hb
  replace hs := hs.below hb
  replace hF := hF.below hb
  replace hw6 := hw6.below hb
  replace h4 := h4.below hb
  replace hf4 := hf4.below hb
  replace hz := below_trans hz hb
  replace h5 := h5.below hb5a
  replace hf5 := hf5.below hb5a
  clear hb hb5 hb5a
  go_wp2_with fail
  refine (HIM.out _ _ _ _ _ hF h4 h5).mono ?_
  rintro e y6 ⟨vg, fg, rfl, hg, hfg, hb6⟩
  obtain ⟨kg, ng, cg, capg, rfl⟩ := hg.agg
  obtain ⟨p0, p1, p2, p3, p4, p5, p6, p7, p8⟩ := box9 hb6
  have hb6a : Below y6.heap.size y6 (y6.alloc (Obj.cells #[.int .i64 kg, .slice cg ng capg] 32)) := (Below.refl _ _).alloc (Nat.le_refl _) _
  have hR6 : Within (y5.heap.size + 1) y6.heap.size fg := by have := hfg.within; simpa using this
  have hS6 : y5.heap.size + 1 ≤ y6.heap.size := by have := hb6.size; simp at this; omega
  have hb := below_trans hb6 hb6a
  replace x0 := cell_keep x0 hb
  replace x1 := cell_keep x1 hb
  replace x2 := cell_keep x2 hb
  replace x3 := cell_keep x3 hb
  replace x4 := cell_keep x4 hb
  replace x5 := cell_keep x5 hb
  replace x6 := cell_keep x6 hb
  replace x7 := cell_keep x7 hb
  replace x8 := cell_keep x8 hb
  replace e0 := cell_keep e0 hb
  replace e1 := cell_keep e1 hb
  replace hat := hat.below hb
  replace hs := hs.below hb
  replace hF := hF.below hb
  replace hw6 := hw6.below hb
  replace h4 := h4.below hb
  replace h5 := h5.below hb
  replace hf4 := hf4.below hb
  replace hf5 := hf5.below hb
  replace hz := below_trans hz hb
  replace p0 := cell_keep p0 hb6a
  replace p1 := cell_keep p1 hb6a
  replace p2 := cell_keep p2 hb6a
  replace p3 := cell_keep p3 hb6a
  replace p4 := cell_keep p4 hb6a
  replace p5 := cell_keep p5 hb6a
  replace p6 := cell_keep p6 hb6a
  replace p7 := cell_keep p7 hb6a
  replace p8 := cell_keep p8 hb6a
  replace hg := hg.below hb6a
  replace hfg := hfg.below hb6a
  clear hb hb6 hb6a
  go_wp2_with fail
  refine (eqType_any _ _ _ _ _ _ _ hg hw6).mono ?_
  rw [tyEq_refl]
  rintro e y7 ⟨rfl, hb⟩
  obtain ⟨g0, g1⟩ := box_cells hb
  replace x0 := cell_keep x0 hb
  replace x1 := cell_keep x1 hb
  replace x2 := cell_keep x2 hb
  replace x3 := cell_keep x3 hb
  replace x4 := cell_keep x4 hb
  replace x5 := cell_keep x5 hb
  replace x6 := cell_keep x6 hb
  replace x7 := cell_keep x7 hb
  replace x8 := cell_keep x8 hb
  replace e0 := cell_keep e0 hb
  replace e1 := cell_keep e1 hb
  replace p0 := cell_keep p0 hb
  replace p1 := cell_keep p1 hb
  replace p2 := cell_keep p2 hb
  replace p3 := cell_keep p3 hb
  replace p4 := cell_keep p4 hb
  replace p5 := cell_keep p5 hb
  replace p6 := cell_keep p6 hb
  replace p7 := cell_keep p7 hb
  replace p8 := cell_keep p8 hb
  replace hat := hat.below hb
  replace hs := hs.below hb
  replace hF := hF.below hb
  replace hw6 := hw6.below hb
  replace h4 := h4.below hb
  replace h5 := h5.below hb
  replace hg := hg.below hb
  replace hf4 := hf4.below hb
  replace hf5 := hf5.below hb
  replace hfg := hfg.below hb
  replace hz := below_trans hz hb
  clear hb
  go_wp2_with fail
  refine (toBindS_any xs _ fs _ hs HCB.out).mono ?_
  rintro e y8 ⟨uu8, gg8, rfl, hu, hgg, hb⟩
  replace x0 := cell_keep x0 hb
  replace x1 := cell_keep x1 hb
  replace x2 := cell_keep x2 hb
  replace x3 := cell_keep x3 hb
  replace x4 := cell_keep x4 hb
  replace x5 := cell_keep x5 hb
  replace x6 := cell_keep x6 hb
  replace x7 := cell_keep x7 hb
  replace x8 := cell_keep x8 hb
  replace e0 := cell_keep e0 hb
  replace e1 := cell_keep e1 hb
  replace p0 := cell_keep p0 hb
  replace p1 := cell_keep p1 hb
  replace p2 := cell_keep p2 hb
  replace p3 := cell_keep p3 hb
  replace p4 := cell_keep p4 hb
  replace p5 := cell_keep p5 hb
  replace p6 := cell_keep p6 hb
  replace p7 := cell_keep p7 hb
  replace p8 := cell_keep p8 hb
  replace g0 := cell_keep g0 hb
  replace g1 := cell_keep g1 hb
  replace hat := hat.below hb
  replace hs := hs.below hb
  replace hF := hF.below hb
  replace hw6 := hw6.below hb
  replace h4 := h4.below hb
  replace h5 := h5.below hb
  replace hg := hg.below hb
  replace hf4 := hf4.below hb
  replace hf5 := hf5.below hb
  replace hfg := hfg.below hb
  replace hz := below_trans hz hb
  clear hb hgg
  go_wp2_with fail
  refine (eqBindS_any xs _ _ _ _ _ h4 hu).mono ?_
  rintro e y9 ⟨rfl, hb⟩
  replace x0 := cell_keep x0 hb
  replace x1 := cell_keep x1 hb
  replace x2 := cell_keep x2 hb
  replace x3 := cell_keep x3 hb
  replace x4 := cell_keep x4 hb
  replace x5 := cell_keep x5 hb
  replace x6 := cell_keep x6 hb
  replace x7 := cell_keep x7 hb
  replace x8 := cell_keep x8 hb
  replace e0 := cell_keep e0 hb
  replace e1 := cell_keep e1 hb
  replace p0 := cell_keep p0 hb
  replace p1 := cell_keep p1 hb
  replace p2 := cell_keep p2 hb
  replace p3 := cell_keep p3 hb
  replace p4 := cell_keep p4 hb
  replace p5 := cell_keep p5 hb
  replace p6 := cell_keep p6 hb
  replace p7 := cell_keep p7 hb
  replace p8 := cell_keep p8 hb
  replace g0 := cell_keep g0 hb
  replace g1 := cell_keep g1 hb
  replace hat := hat.below hb
  replace hs := hs.below hb
  replace hF := hF.below hb
  replace hw6 := hw6.below hb
  replace h4 := h4.below hb
  replace h5 := h5.below hb
  replace hg := hg.below hb
  replace hf4 := hf4.below hb
  replace hf5 := hf5.below hb
  replace hfg := hfg.below hb
  replace hz := below_trans hz hb
  clear hb hu
  go_wp2_with fail
  go_region_held3 (fun w' => Below y9.heap.size y9 w' ∧ w'.cell? ⟨w.heap.size, 0, none⟩ = some (.int .i64 k) ∧ w'.cell? ⟨w.heap.size, 1, none⟩ = some (.string nm) ∧ w'.cell? ⟨w.heap.size, 2, none⟩ = some (.int .i64 num) ∧ w'.cell? ⟨w.heap.size, 3, none⟩ = some (.int .i64 k1) ∧ w'.cell? ⟨w.heap.size, 4, none⟩ = some (.slice a1 n1 c1) ∧ w'.cell? ⟨w.heap.size, 5, none⟩ = some (.int .i64 k2) ∧ w'.cell? ⟨w.heap.size, 6, none⟩ = some (.slice a2 n2 c2) ∧ w'.cell? ⟨w.heap.size, 7, none⟩ = some (.int .i64 lb) ∧ w'.cell? ⟨w.heap.size, 8, none⟩ = some (.slice a3 n3 c3) ∧ w'.cell? ⟨y5.heap.size, 0, none⟩ = some (.int .i64 k5) ∧ w'.cell? ⟨y5.heap.size, 1, none⟩ = some (.string nm5) ∧ w'.cell? ⟨y5.heap.size, 2, none⟩ = some (.int .i64 num5) ∧ w'.cell? ⟨y5.heap.size, 3, none⟩ = some (.int .i64 k15) ∧ w'.cell? ⟨y5.heap.size, 4, none⟩ = some (.slice a15 n15 c15) ∧ w'.cell? ⟨y5.heap.size, 5, none⟩ = some (.int .i64 k25) ∧ w'.cell? ⟨y5.heap.size, 6, none⟩ = some (.slice a25 n25 c25) ∧ w'.cell? ⟨y5.heap.size, 7, none⟩ = some (.int .i64 lb5) ∧ w'.cell? ⟨y5.heap.size, 8, none⟩ = some (.slice a35 n35 c35))
    ((refine (fun hB => ⟨hB, cell_keep x0 hB, cell_keep x1 hB, cell_keep x2 hB, cell_keep x3 hB, cell_keep x4 hB, cell_keep x5 hB, cell_keep x6 hB, cell_keep x7 hB, cell_keep x8 hB, cell_keep p0 hB, cell_keep p1 hB, cell_keep p2 hB, cell_keep p3 hB, cell_keep p4 hB, cell_keep p5 hB, cell_keep p6 hB, cell_keep p7 hB, cell_keep p8 hB⟩ : Below y9.heap.size y9 _ → _) ?_; (first | exact below_drew y9 | exact hk1 | exact hk2)))
    (first
      | (go_at_call 12; refine (toTerm_any t _ _ _ (hat.below (below_drew y9)) hc).mono ?_; rintro e y10 ⟨uu10, gg10, rfl, hu, hgg, hy⟩; have hk1 := below_trans (below_drew y9) hy)
      | (go_at_call 14; refine (eqTerm_any t _ _ _ _ _ (h5.below hk1) hu).mono ?_; rintro e y11 ⟨rfl, hyy⟩; have hk2 := below_trans hk1 hyy))
  replace x0 := cell_keep x0 hk2
  replace x1 := cell_keep x1 hk2
  replace x2 := cell_keep x2 hk2
  replace x3 := cell_keep x3 hk2
  replace x4 := cell_keep x4 hk2
  replace x5 := cell_keep x5 hk2
  replace x6 := cell_keep x6 hk2
  replace x7 := cell_keep x7 hk2
  replace x8 := cell_keep x8 hk2
  replace e0 := cell_keep e0 hk2
  replace e1 := cell_keep e1 hk2
  replace p0 := cell_keep p0 hk2
  replace p1 := cell_keep p1 hk2
  replace p2 := cell_keep p2 hk2
  replace p3 := cell_keep p3 hk2
  replace p4 := cell_keep p4 hk2
  replace p5 := cell_keep p5 hk2
  replace p6 := cell_keep p6 hk2
  replace p7 := cell_keep p7 hk2
  replace p8 := cell_keep p8 hk2
  replace g0 := cell_keep g0 hk2
  replace g1 := cell_keep g1 hk2
  replace hat := hat.below hk2
  replace hs := hs.below hk2
  replace hF := hF.below hk2
  replace hw6 := hw6.below hk2
  replace h4 := h4.below hk2
  replace h5 := h5.below hk2
  replace hg := hg.below hk2
  replace hf4 := hf4.below hk2
  replace hf5 := hf5.below hk2
  replace hfg := hfg.below hk2
  replace hz := below_trans hz hk2
  clear hk1 hk2 hu hgg hy hyy
  go_wp2_with fail
  have hRA : Within 0 w.heap.size fp := fun b hb => ⟨Nat.zero_le _, hlA b hb⟩
  have hRS : Within 0 w.heap.size fs := fun b hb => ⟨Nat.zero_le _, hlS b hb⟩
  have hRw : Within 0 wc.heap.size f6 := fun b hb => ⟨Nat.zero_le _, hl6 b hb⟩
  have hFz : 0 < w.heap.size := hF0
  refine (markBindS_any xs _ f4 1 _ _ h4 hf4.1 (fun b hb => (hf4.2 b hb).2.2) rfl (by omega) (by have := HNB.out; omega)).mono ?_
  rintro e y12 ⟨rfl, hon⟩
  clear h4 hf4
  replace x0 := cell_only x0 hon (by first | exact hR4.low (by omega) | exact hR4.high (by omega))
  replace x1 := cell_only x1 hon (by first | exact hR4.low (by omega) | exact hR4.high (by omega))
  replace x2 := cell_only x2 hon (by first | exact hR4.low (by omega) | exact hR4.high (by omega))
  replace x3 := cell_only x3 hon (by first | exact hR4.low (by omega) | exact hR4.high (by omega))
  replace x4 := cell_only x4 hon (by first | exact hR4.low (by omega) | exact hR4.high (by omega))
  replace x5 := cell_only x5 hon (by first | exact hR4.low (by omega) | exact hR4.high (by omega))
  replace x6 := cell_only x6 hon (by first | exact hR4.low (by omega) | exact hR4.high (by omega))
  replace x7 := cell_only x7 hon (by first | exact hR4.low (by omega) | exact hR4.high (by omega))
  replace x8 := cell_only x8 hon (by first | exact hR4.low (by omega) | exact hR4.high (by omega))
  replace e0 := cell_only e0 hon (by first | exact hR4.low (by omega) | exact hR4.high (by omega))
  replace e1 := cell_only e1 hon (by first | exact hR4.low (by omega) | exact hR4.high (by omega))
  replace p0 := cell_only p0 hon (by first | exact hR4.low (by omega) | exact hR4.high (by omega))
  replace p1 := cell_only p1 hon (by first | exact hR4.low (by omega) | exact hR4.high (by omega))
  replace p2 := cell_only p2 hon (by first | exact hR4.low (by omega) | exact hR4.high (by omega))
  replace p3 := cell_only p3 hon (by first | exact hR4.low (by omega) | exact hR4.high (by omega))
  replace p4 := cell_only p4 hon (by first | exact hR4.low (by omega) | exact hR4.high (by omega))
  replace p5 := cell_only p5 hon (by first | exact hR4.low (by omega) | exact hR4.high (by omega))
  replace p6 := cell_only p6 hon (by first | exact hR4.low (by omega) | exact hR4.high (by omega))
  replace p7 := cell_only p7 hon (by first | exact hR4.low (by omega) | exact hR4.high (by omega))
  replace p8 := cell_only p8 hon (by first | exact hR4.low (by omega) | exact hR4.high (by omega))
  replace g0 := cell_only g0 hon (by first | exact hR4.low (by omega) | exact hR4.high (by omega))
  replace g1 := cell_only g1 hon (by first | exact hR4.low (by omega) | exact hR4.high (by omega))
  replace hat := hat.only hon (hR4.apart hRA (by omega))
  replace hs := hs.only hon (hR4.apart hRS (by omega))
  replace hw6 := hw6.only hon (hR4.apart hRw (by omega))
  replace h5 := h5.only hon (hR4.apart hR5 (by omega))
  replace hg := hg.only hon (hR4.apart hR6 (by omega))
  replace hF : Forms _ := fun j hj => cell_only (hF j hj) hon (hR4.low (by omega))
  replace hf5 := hf5.only hon
  replace hfg := hfg.only hon
  replace hz := belowOnly hz hon (by have := hz.size; omega) (fun b hb => by have := (hR4 b hb).1; omega)
  clear hon
  go_wp2_with fail
  refine (markTerm_any t _ f5 (1 + numB xs) _ _ h5 hf5.1 (fun b hb => (hf5.2 b hb).2.2) rfl HNUM.out).mono ?_
  rintro e y13 ⟨rfl, _, hon⟩
  clear p0 p1 p2 p3 p4 p5 p6 p7 p8 h5 hf5
  replace x0 := cell_only x0 hon (by first | exact hR5.low (by omega) | exact hR5.high (by omega))
  replace x1 := cell_only x1 hon (by first | exact hR5.low (by omega) | exact hR5.high (by omega))
  replace x2 := cell_only x2 hon (by first | exact hR5.low (by omega) | exact hR5.high (by omega))
  replace x3 := cell_only x3 hon (by first | exact hR5.low (by omega) | exact hR5.high (by omega))
  replace x4 := cell_only x4 hon (by first | exact hR5.low (by omega) | exact hR5.high (by omega))
  replace x5 := cell_only x5 hon (by first | exact hR5.low (by omega) | exact hR5.high (by omega))
  replace x6 := cell_only x6 hon (by first | exact hR5.low (by omega) | exact hR5.high (by omega))
  replace x7 := cell_only x7 hon (by first | exact hR5.low (by omega) | exact hR5.high (by omega))
  replace x8 := cell_only x8 hon (by first | exact hR5.low (by omega) | exact hR5.high (by omega))
  replace e0 := cell_only e0 hon (by first | exact hR5.low (by omega) | exact hR5.high (by omega))
  replace e1 := cell_only e1 hon (by first | exact hR5.low (by omega) | exact hR5.high (by omega))
  replace g0 := cell_only g0 hon (by first | exact hR5.low (by omega) | exact hR5.high (by omega))
  replace g1 := cell_only g1 hon (by first | exact hR5.low (by omega) | exact hR5.high (by omega))
  replace hat := hat.only hon (hR5.apart hRA (by omega))
  replace hs := hs.only hon (hR5.apart hRS (by omega))
  replace hw6 := hw6.only hon (hR5.apart hRw (by omega))
  replace hg := hg.only hon (hR5.apart hR6 (by omega))
  replace hF : Forms _ := fun j hj => cell_only (hF j hj) hon (hR5.low (by omega))
  replace hfg := hfg.only hon
  replace hz := belowOnly hz hon (by have := hz.size; omega) (fun b hb => by have := (hR5 b hb).1; omega)
  clear hon
  go_wp2_with fail
  refine (eqType_any _ _ _ _ _ _ _ hg hw6).mono ?_
  rw [tyEq_refl]
  rintro e y14 ⟨rfl, hb⟩
  replace x0 := cell_keep x0 hb
  replace x1 := cell_keep x1 hb
  replace x2 := cell_keep x2 hb
  replace x3 := cell_keep x3 hb
  replace x4 := cell_keep x4 hb
  replace x5 := cell_keep x5 hb
  replace x6 := cell_keep x6 hb
  replace x7 := cell_keep x7 hb
  replace x8 := cell_keep x8 hb
  replace e0 := cell_keep e0 hb
  replace e1 := cell_keep e1 hb
  replace g0 := cell_keep g0 hb
  replace g1 := cell_keep g1 hb
  replace hat := hat.below hb
  replace hs := hs.below hb
  replace hF := hF.below hb
  replace hw6 := hw6.below hb
  replace hg := hg.below hb
  replace hfg := hfg.below hb
  replace hz := below_trans hz hb
  clear hb
  go_wp2_with fail
  refine (markType_any _ _ _ _ _ hg hfg.1 (fun b hb => (hfg.2 b hb).2.2) (by omega) (by omega)).mono ?_
  rintro e y15 ⟨rfl, hg, hon⟩
  replace x0 := cell_only x0 hon (by first | exact hR6.low (by omega) | exact hR6.high (by omega))
  replace x1 := cell_only x1 hon (by first | exact hR6.low (by omega) | exact hR6.high (by omega))
  replace x2 := cell_only x2 hon (by first | exact hR6.low (by omega) | exact hR6.high (by omega))
  replace x3 := cell_only x3 hon (by first | exact hR6.low (by omega) | exact hR6.high (by omega))
  replace x4 := cell_only x4 hon (by first | exact hR6.low (by omega) | exact hR6.high (by omega))
  replace x5 := cell_only x5 hon (by first | exact hR6.low (by omega) | exact hR6.high (by omega))
  replace x6 := cell_only x6 hon (by first | exact hR6.low (by omega) | exact hR6.high (by omega))
  replace x7 := cell_only x7 hon (by first | exact hR6.low (by omega) | exact hR6.high (by omega))
  replace x8 := cell_only x8 hon (by first | exact hR6.low (by omega) | exact hR6.high (by omega))
  replace e0 := cell_only e0 hon (by first | exact hR6.low (by omega) | exact hR6.high (by omega))
  replace e1 := cell_only e1 hon (by first | exact hR6.low (by omega) | exact hR6.high (by omega))
  replace g0 := cell_only g0 hon (by first | exact hR6.low (by omega) | exact hR6.high (by omega))
  replace g1 := cell_only g1 hon (by first | exact hR6.low (by omega) | exact hR6.high (by omega))
  replace hat := hat.only hon (hR6.apart hRA (by omega))
  replace hs := hs.only hon (hR6.apart hRS (by omega))
  replace hw6 := hw6.only hon (hR6.apart hRw (by omega))
  replace hF : Forms _ := fun j hj => cell_only (hF j hj) hon (hR6.low (by omega))
  replace hz := belowOnly hz hon (by have := hz.size; omega) (fun b hb => by have := (hR6 b hb).1; omega)
  clear hon hfg
  go_wp2_with fail
  refine (heldType_any _ _ _ _ _ hg (by omega) (by omega)).mono ?_
  rintro e y16 ⟨rfl, hb⟩
  replace x0 := cell_keep x0 hb
  replace x1 := cell_keep x1 hb
  replace x2 := cell_keep x2 hb
  replace x3 := cell_keep x3 hb
  replace x4 := cell_keep x4 hb
  replace x5 := cell_keep x5 hb
  replace x6 := cell_keep x6 hb
  replace x7 := cell_keep x7 hb
  replace x8 := cell_keep x8 hb
  replace e0 := cell_keep e0 hb
  replace e1 := cell_keep e1 hb
  replace g0 := cell_keep g0 hb
  replace g1 := cell_keep g1 hb
  replace hat := hat.below hb
  replace hs := hs.below hb
  replace hF := hF.below hb
  replace hw6 := hw6.below hb
  replace hg := hg.below hb
  replace hz := below_trans hz hb
  clear hb
  go_wp2_with fail
  go_cut [15, 16] (fun sa sb wx => ∃ (b6 : Nat) (k3 : Int) (n3 : Nat) (c3 : Option Addr) (cap3 : Nat) (g3 : List Nat), sa = .pointer (some ⟨b6, 0, none⟩) ∧ sb = .bool ok ∧ Below y16.heap.size y16 wx ∧ wx.cell? ⟨b6, 0, none⟩ = some (.int .i64 k3) ∧ wx.cell? ⟨b6, 1, none⟩ = some (.slice c3 n3 cap3) ∧ E.At wx (.agg #[.int .i64 k3, .slice c3 n3 cap3]) g3)
  case first =>
    go_region_held3 (fun w' => Below y16.heap.size y16 w' ∧ w'.cell? ⟨w.heap.size, 0, none⟩ = some (.int .i64 k) ∧ w'.cell? ⟨w.heap.size, 1, none⟩ = some (.string nm) ∧ w'.cell? ⟨w.heap.size, 2, none⟩ = some (.int .i64 num) ∧ w'.cell? ⟨w.heap.size, 3, none⟩ = some (.int .i64 k1) ∧ w'.cell? ⟨w.heap.size, 4, none⟩ = some (.slice a1 n1 c1) ∧ w'.cell? ⟨w.heap.size, 5, none⟩ = some (.int .i64 k2) ∧ w'.cell? ⟨w.heap.size, 6, none⟩ = some (.slice a2 n2 c2) ∧ w'.cell? ⟨w.heap.size, 7, none⟩ = some (.int .i64 lb) ∧ w'.cell? ⟨w.heap.size, 8, none⟩ = some (.slice a3 n3 c3))
      ((refine (fun hB => ⟨hB, cell_keep x0 hB, cell_keep x1 hB, cell_keep x2 hB, cell_keep x3 hB, cell_keep x4 hB, cell_keep x5 hB, cell_keep x6 hB, cell_keep x7 hB, cell_keep x8 hB⟩ : Below y16.heap.size y16 _ → _) ?_; (first | exact below_drew y16 | exact hk3 | exact hk2 | exact hk1 | (go_split_ands; first | exact Below.alloc (by assumption) (Below.size (by assumption)) _ | exact Below.setCell (Below.setCell hk3 (by first | exact hk2.size | exact hk1.size | exact Nat.le_refl _) _) (by first | exact hk2.size | exact hk1.size | exact Nat.le_refl _) _))))
      (first
        | (go_at_call 17; go_split_ands; refine (toBindS_any xs _ fs _ (hs.below (by assumption)) HCB.out).mono ?_; rintro e y1 ⟨u1, g1, rfl, hu1, hg1, hy1⟩; have hk1 : Below y16.heap.size y16 y1 := below_trans (by assumption) hy1; (first | have Q1 : y1.heap[y16.heap.size]? = some (Obj.cells #[.int .i64 0, .slice none 0 0] 32) := (hy1.block y16.heap.size (by first | (show y16.heap.size < (y16.alloc _).heap.size; simp) | simp)).trans (alloc_new y16 _) | skip))
        | (go_at_call 12; go_split_ands; refine (toTerm_any t _ _ _ (hat.below (by assumption)) hc).mono ?_; rintro e y2 ⟨u2, g2, rfl, hu2, hg2, hy2⟩; have hk2 : Below y16.heap.size y16 y2 := below_trans (by assumption) hy2; (first | have hu1' := hu1.below hy2 | have hu1' := hu1.below (alloc1 hy2)); (first | have Q2 := (hy2.block _ (lt_of_block Q1)).trans Q1 | have Q2 := (hy2.block y1.heap.size (by simp)).trans (alloc_new y1 _) | skip))
        | (go_at_call 18; go_split_ands; refine (HIM.out _ _ _ _ _ (by first | exact hF.below hk2 | exact hF.below (hk2.alloc (by have := hk2.size; omega) _)) (by first | exact hu1' | exact hu1'.below ((Below.refl _ _).alloc (Nat.le_refl _) _)) (by first | exact hu2 | exact hu2.below ((Below.refl _ _).alloc (Nat.le_refl _) _))).mono ?_; rintro e y3 ⟨u3, g3, rfl, hu3, hg3, hy3⟩; obtain ⟨k3, n3, c3, cap3, rfl⟩ := hu3.agg; have hk3 : Below y16.heap.size y16 y3 := below_trans (by assumption) hy3; (first | have Q3 := (hy3.block _ (lt_of_block Q2)).trans Q2 | have Q3 := (hy3.block y2.heap.size (by simp)).trans (alloc_new y2 _) | skip); (first | (have f0 := frozen_of_block (o := 0) Q3; have f1 := frozen_of_block (o := 1) Q3; have f2 := (cell_of_block (o := 0) Q3); have f3 := (cell_of_block (o := 1) Q3)) | skip)))
    all_goals
      go_wp2_with fail
      go_meet
      go_split_ands
      first
        | exact ⟨_, k3, n3, c3, cap3, g3, rfl, rfl, by assumption, one_at9 hu3⟩
        | exact ⟨_, k3, n3, c3, cap3, g3, rfl, rfl, by assumption, two_at9 Q3 hu3 hg3 (by first | exact Nat.lt_of_lt_of_le (lt_of_block Q2) (Nat.le_refl _) | exact Nat.lt_of_lt_of_le (lt_of_block Q2) (by simp) | (simp; done))⟩
  case rest =>
  obtain ⟨b8, k8, n8, c8, cap8, f8, rfl, rfl, hb, d0, d1, hw8⟩ := hcut
  replace x0 := cell_keep x0 hb
  replace x1 := cell_keep x1 hb
  replace x2 := cell_keep x2 hb
  replace x3 := cell_keep x3 hb
  replace x4 := cell_keep x4 hb
  replace x5 := cell_keep x5 hb
  replace x6 := cell_keep x6 hb
  replace x7 := cell_keep x7 hb
  replace x8 := cell_keep x8 hb
  replace e0 := cell_keep e0 hb
  replace e1 := cell_keep e1 hb
  replace g0 := cell_keep g0 hb
  replace g1 := cell_keep g1 hb
  replace hat := hat.below hb
  replace hs := hs.below hb
  replace hF := hF.below hb
  replace hw6 := hw6.below hb
  replace hg := hg.below hb
  replace hz := below_trans hz hb
  clear hb
  go_wp2_with fail
  refine (eqType_any _ _ _ _ _ _ _ hw8 hw6).mono ?_
  rw [tyEq_refl]
  rintro e y19 ⟨rfl, hb⟩
  replace x0 := cell_keep x0 hb
  replace x1 := cell_keep x1 hb
  replace x2 := cell_keep x2 hb
  replace x3 := cell_keep x3 hb
  replace x4 := cell_keep x4 hb
  replace x5 := cell_keep x5 hb
  replace x6 := cell_keep x6 hb
  replace x7 := cell_keep x7 hb
  replace x8 := cell_keep x8 hb
  replace e0 := cell_keep e0 hb
  replace e1 := cell_keep e1 hb
  replace g0 := cell_keep g0 hb
  replace g1 := cell_keep g1 hb
  replace hat := hat.below hb
  replace hs := hs.below hb
  replace hF := hF.below hb
  replace hw6 := hw6.below hb
  replace hg := hg.below hb
  replace hz := below_trans hz hb
  clear hb
  go_wp2_with fail
  refine (heldType_any _ _ _ _ _ hg (by omega) (by omega)).mono ?_
  rintro e y20 ⟨rfl, hb⟩
  replace hz := below_trans hz hb
  go_wp2_with fail
  go_ret
  exact ⟨rfl, hz⟩
end Go.Proofs.YtffmpjcjmffdeaaDoor

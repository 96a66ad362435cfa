/- The law on ComposeCoercions: it returns true and writes nothing that was there. -/
import Derived.Test.YtgekfnodmgkdaaaCSz
import Derived.Test.YtgekfnodmgkdaaaCTo
import Derived.Test.YtgekfnodmgkdaaaCEq
import Derived.Test.YtgekfnodmgkdaaaCHd
import Derived.Test.YtgekfnodmgkdaaaCcm
import Derived.Deep.RegionHeld3
namespace Go.Proofs.Ytgekfnodmgkdaaa
open Go.RowKit

theorem one_allocC {y3 : World} {x0 x1 x2 x3 v : Value} {T : TypeId} {t : Co} {g : List Nat} (hu : t.At y3 v g) :
    (y3.alloc (Obj.cells #[x0, x1, x2, x3] T)).cell? ⟨y3.heap.size, 0, none⟩ = some x0 ∧ (y3.alloc (Obj.cells #[x0, x1, x2, x3] T)).cell? ⟨y3.heap.size, 1, none⟩ = some x1 ∧ (y3.alloc (Obj.cells #[x0, x1, x2, x3] T)).cell? ⟨y3.heap.size, 2, none⟩ = some x2 ∧ (y3.alloc (Obj.cells #[x0, x1, x2, x3] T)).cell? ⟨y3.heap.size, 3, none⟩ = some x3 ∧ t.At (y3.alloc (Obj.cells #[x0, x1, x2, x3] T)) v g :=
  ⟨by rw [cell_of_block (alloc_new _ _)]; rfl, by rw [cell_of_block (alloc_new _ _)]; rfl, by rw [cell_of_block (alloc_new _ _)]; rfl, by rw [cell_of_block (alloc_new _ _)]; rfl, hu.below ((Below.refl _ _).alloc (Nat.le_refl _) _)⟩

theorem four_storesC {y3 : World} {b B : Nat} {c0 c1 c2 c3 x0 x1 x2 x3 v : Value} {T : TypeId} {t : Co} {g : List Nat} (Q : y3.heap[b]? = some (.cells #[c0, c1, c2, c3] T (0, 0))) (hu : t.At y3 v g) (hg : Fresh B y3 g) (hb : b < B) :
    ((((y3.setCell ⟨b, 0, none⟩ x0).setCell ⟨b, 1, none⟩ x1).setCell ⟨b, 2, none⟩ x2).setCell ⟨b, 3, none⟩ x3).cell? ⟨b, 0, none⟩ = some x0 ∧ ((((y3.setCell ⟨b, 0, none⟩ x0).setCell ⟨b, 1, none⟩ x1).setCell ⟨b, 2, none⟩ x2).setCell ⟨b, 3, none⟩ x3).cell? ⟨b, 1, none⟩ = some x1 ∧ ((((y3.setCell ⟨b, 0, none⟩ x0).setCell ⟨b, 1, none⟩ x1).setCell ⟨b, 2, none⟩ x2).setCell ⟨b, 3, none⟩ x3).cell? ⟨b, 2, none⟩ = some x2 ∧ ((((y3.setCell ⟨b, 0, none⟩ x0).setCell ⟨b, 1, none⟩ x1).setCell ⟨b, 2, none⟩ x2).setCell ⟨b, 3, none⟩ x3).cell? ⟨b, 3, none⟩ = some x3 ∧ t.At ((((y3.setCell ⟨b, 0, none⟩ x0).setCell ⟨b, 1, none⟩ x1).setCell ⟨b, 2, none⟩ x2).setCell ⟨b, 3, none⟩ x3) v g := by
  have R := heap_setCell_at (heap_setCell_at (heap_setCell_at (heap_setCell_at (o := 0) Q x0) x1 (o := 1)) x2 (o := 2)) x3 (o := 3)
  have hne : ∀ y ∈ g, y ≠ b := fun y hy => by have := hg.ge y hy; omega
  exact ⟨by rw [cell_of_block R]; rfl, by rw [cell_of_block R]; rfl, by rw [cell_of_block R]; rfl, by rw [cell_of_block R]; rfl, (((hu.setCell (a := ⟨b, 0, none⟩) hne x0).setCell (a := ⟨b, 1, none⟩) hne x1).setCell (a := ⟨b, 2, none⟩) hne x2).setCell (a := ⟨b, 3, none⟩) hne x3⟩

theorem two8 {w wr : World} {o o' : Obj} (h : Below ((w.alloc o).alloc o').heap.size ((w.alloc o).alloc o') wr) : wr.heap[w.heap.size]? = some o ∧ wr.heap[w.heap.size + 1]? = some o' := by
  have hs : (w.alloc o).heap.size = w.heap.size + 1 := by simp
  refine ⟨(h.block w.heap.size (by simp; omega)).trans ((Below.heap_alloc _ _ _ (by simp)).trans (alloc_new w _)), ?_⟩
  rw [h.block (w.heap.size + 1) (by simp), ← hs]
  exact alloc_new _ _

theorem alloc2L {w w' : World} {o o' : Obj} (h : Below ((w.alloc o).alloc o').heap.size ((w.alloc o).alloc o') w') : Below w.heap.size w w' := alloc1 (alloc1 h)

theorem box8 {w wr : World} {x y z u x' y' z' u' : Value} {T T' : TypeId} (h : Below ((w.alloc (Obj.cells #[x, y, z, u] T)).alloc (Obj.cells #[x', y', z', u'] T')).heap.size ((w.alloc (Obj.cells #[x, y, z, u] T)).alloc (Obj.cells #[x', y', z', u'] T')) wr) :
    wr.cell? ⟨w.heap.size, 0, none⟩ = some x ∧ wr.cell? ⟨w.heap.size, 1, none⟩ = some y ∧ wr.cell? ⟨w.heap.size, 2, none⟩ = some z ∧ wr.cell? ⟨w.heap.size, 3, none⟩ = some u ∧ wr.cell? ⟨w.heap.size + 1, 0, none⟩ = some x' ∧ wr.cell? ⟨w.heap.size + 1, 1, none⟩ = some y' ∧ wr.cell? ⟨w.heap.size + 1, 2, none⟩ = some z' ∧ wr.cell? ⟨w.heap.size + 1, 3, none⟩ = some u' := by
  obtain ⟨h1, h2⟩ := two8 h
  exact ⟨by rw [cell_of_block h1]; rfl, by rw [cell_of_block h1]; rfl, by rw [cell_of_block h1]; rfl, by rw [cell_of_block h1]; rfl, by rw [cell_of_block h2]; rfl, by rw [cell_of_block h2]; rfl, by rw [cell_of_block h2]; rfl, by rw [cell_of_block h2]; rfl⟩


set_option maxHeartbeats 8000000 in
set_option maxRecDepth 100000 in
theorem lawComposeCoercions (t : Co) (v1 : Value) (fp1 : List Nat) (u : Co) (v2 : Value) (fp2 : List Nat) (w : World) (hat : t.At w v1 fp1) (hau : u.At w v2 fp2) :
    Calls Try.prog 4 #[v1, v2] w fun e w' => e = .returned (.bool true) ∧ Below w.heap.size w w' := by
  obtain ⟨k, g, l, m, a, cap, rfl⟩ := hat.agg
  obtain ⟨k', g', l', m', a', cap', rfl⟩ := hau.agg
  have hlA := hat.lt
  have hlU := hau.lt
  have hB : Below w.heap.size w ((w.alloc (Obj.cells #[.int .i64 k, .int .i64 g, .int .i64 l, .slice a m cap] 40)).alloc (Obj.cells #[.int .i64 k', .int .i64 g', .int .i64 l', .slice a' m' cap'] 40)) := ((Below.refl _ _).alloc (Nat.le_refl _) _).alloc (by simp) _
  have hA := hat.below hB
  have hU := hau.below hB
  clear hat hau
  by_cases hc : (t.cnt : Int) ≤ 1048576
  case neg =>
    go_enter Try.func4, Try.ntmps4
    go_wp2_with fail
    refine (szCoer_none t _ _ 1048576 _ (by omega) (by omega) hA (by omega)).mono ?_
    rintro e z0 ⟨rfl, hb0⟩
    go_wp2_with fail
    go_ret
    exact ⟨rfl, alloc2L hb0⟩
  have hp0 : (0 : Int) ≤ 1048576 - (t.cnt : Int) := by omega
  by_cases hc2 : (u.cnt : Int) ≤ 1048576 - (t.cnt : Int)
  case neg =>
    go_enter Try.func4, Try.ntmps4
    go_wp2_with fail
    refine (szCoer_some t _ _ 1048576 _ (by omega) (by omega) hA (by omega)).mono ?_
    rintro e z0 ⟨rfl, hb0⟩
    obtain ⟨x0, x1, x2, x3, x4, x5, x6, x7⟩ := box8 hb0
    go_wp2_with fail
    refine (szCoer_none u _ _ _ _ (by omega) (by omega) (hU.below hb0) (by omega)).mono ?_
    rintro e z1 ⟨rfl, hb1⟩
    go_wp2_with fail
    go_ret
    exact ⟨rfl, below_trans (alloc2L hb0) hb1⟩
  have hp1 : (0 : Int) ≤ 1048576 - (t.cnt : Int) - (u.cnt : Int) := by omega
  have hn1 : t.cnt ≤ 1048576 := by omega
  have hn2 : u.cnt ≤ 1048576 := by omega
  have hn3 : (cmpOf t u).cnt ≤ 16777216 := cmpOf_cnt t u
  go_enter Try.func4, Try.ntmps4
  go_wp2_with fail
  refine (szCoer_some t _ _ 1048576 _ (by omega) (by omega) hA (by omega)).mono ?_
  rintro e z0 ⟨rfl, hb0⟩
  obtain ⟨x0, x1, x2, x3, x4, x5, x6, x7⟩ := box8 hb0
  replace hA := hA.below hb0
  replace hU := hU.below hb0
  have hz := alloc2L hb0
  clear hb0 hB
  go_wp2_with fail
  refine (szCoer_some u _ _ _ _ (by omega) (by omega) hU (by omega)).mono ?_
  rintro e z1 ⟨rfl, hb⟩
  replace x0 := cell_keep x0 hb
  replace x1 := cell_keep x1 hb
  replace x2 := cell_keep x2 hb
  replace x3 := cell_keep x3 hb
  replace x4 := cell_keep x4 hb
  replace x5 := cell_keep x5 hb
  replace x6 := cell_keep x6 hb
  replace x7 := cell_keep x7 hb
  replace hA := hA.below hb
  replace hU := hU.below hb
  replace hz := below_trans hz hb
  clear hb
  go_wp2_with fail
  go_cut [6, 7] (fun s6 s7 wx => ∃ (b6 : Nat) (k3 g3 l3 : Int) (n3 : Nat) (c3 : Option Addr) (cap3 : Nat) (gf : List Nat), s6 = .pointer (some ⟨b6, 0, none⟩) ∧ s7 = .bool (cmpOk t u) ∧ Below z1.heap.size z1 wx ∧ wx.cell? ⟨b6, 0, none⟩ = some (.int .i64 k3) ∧ wx.cell? ⟨b6, 1, none⟩ = some (.int .i64 g3) ∧ wx.cell? ⟨b6, 2, none⟩ = some (.int .i64 l3) ∧ wx.cell? ⟨b6, 3, none⟩ = some (.slice c3 n3 cap3) ∧ (cmpOf t u).At wx (.agg #[.int .i64 k3, .int .i64 g3, .int .i64 l3, .slice c3 n3 cap3]) gf)
  case first =>
    go_region_held3 (fun w' => Below z1.heap.size z1 w' ∧ w'.cell? ⟨w.heap.size, 0, none⟩ = some (.int .i64 k) ∧ w'.cell? ⟨w.heap.size, 1, none⟩ = some (.int .i64 g) ∧ w'.cell? ⟨w.heap.size, 2, none⟩ = some (.int .i64 l) ∧ w'.cell? ⟨w.heap.size, 3, none⟩ = some (.slice a m cap) ∧ w'.cell? ⟨w.heap.size + 1, 0, none⟩ = some (.int .i64 k') ∧ w'.cell? ⟨w.heap.size + 1, 1, none⟩ = some (.int .i64 g') ∧ w'.cell? ⟨w.heap.size + 1, 2, none⟩ = some (.int .i64 l') ∧ w'.cell? ⟨w.heap.size + 1, 3, none⟩ = some (.slice a' m' cap'))
      ((refine (fun hB => ⟨hB, cell_keep x0 hB, cell_keep x1 hB, cell_keep x2 hB, cell_keep x3 hB, cell_keep x4 hB, cell_keep x5 hB, cell_keep x6 hB, cell_keep x7 hB⟩ : Below z1.heap.size z1 _ → _) ?_; (first | exact below_drew z1 | exact hk3 | exact hk2 | exact hk1 | (go_split_ands; first | exact Below.alloc (by assumption) (Below.size (by assumption)) _ | exact Below.setCell (Below.setCell (Below.setCell (Below.setCell (hk3) (by first | exact hk2.size | exact hk1.size | exact Nat.le_refl _) _) (by first | exact hk2.size | exact hk1.size | exact Nat.le_refl _) _) (by first | exact hk2.size | exact hk1.size | exact Nat.le_refl _) _) (by first | exact hk2.size | exact hk1.size | exact Nat.le_refl _) _))))
      (first
        | (go_at_call_of 13 (Value.agg #[.int .i64 k, .int .i64 g, .int .i64 l, .slice a m cap]); go_split_ands; refine (toCoer_any t _ _ _ (hA.below (by assumption)) hn1).mono ?_; rintro e y1 ⟨u1, g1, rfl, hu1, hg1, hy1⟩; have hk1 : Below z1.heap.size z1 y1 := below_trans (by assumption) hy1; (first | have Q1 : y1.heap[z1.heap.size]? = some (Obj.cells #[.int .i64 0, .int .i64 0, .int .i64 0, .slice none 0 0] 44) := (hy1.block z1.heap.size (by first | (show z1.heap.size < (z1.alloc _).heap.size; simp) | simp)).trans (alloc_new z1 _) | skip))
        | (go_at_call_of 13 (Value.agg #[.int .i64 k', .int .i64 g', .int .i64 l', .slice a' m' cap']); go_split_ands; refine (toCoer_any u _ _ _ (hU.below (by assumption)) hn2).mono ?_; rintro e y2 ⟨u2, g2, rfl, hu2, hg2, hy2⟩; have hk2 : Below z1.heap.size z1 y2 := below_trans (by assumption) hy2; (first | have hu1' := hu1.below hy2 | have hu1' := hu1.below (alloc1 hy2)); (first | have Q2 := (hy2.block _ (lt_of_block Q1)).trans Q1 | have Q2 := (hy2.block y1.heap.size (by simp)).trans (alloc_new y1 _) | skip))
        | (go_at_call 12; go_split_ands; refine (specCompose t u _ _ _ _ _ (by first | exact hu1' | exact hu1'.below ((Below.refl _ _).alloc (Nat.le_refl _) _)) (by first | exact hu2 | exact hu2.below ((Below.refl _ _).alloc (Nat.le_refl _) _))).mono ?_; rintro e y3 ⟨u3, gg3, rfl, hu3, hg3, hy3⟩; obtain ⟨k3, g3, l3, n3, c3, cap3, rfl⟩ := hu3.agg; have hk3 : Below z1.heap.size z1 y3 := below_trans (by assumption) hy3; (first | have Q3 := (hy3.block _ (lt_of_block Q2)).trans Q2 | have Q3 := (hy3.block y2.heap.size (by simp)).trans (alloc_new y2 _) | skip); (first | (have f0 := frozen_of_block (o := 0) Q3; have f1 := frozen_of_block (o := 1) Q3; have f2 := frozen_of_block (o := 2) Q3; have f3 := frozen_of_block (o := 3) Q3; have f4 := (cell_of_block (o := 0) Q3); have f5 := (cell_of_block (o := 1) Q3); have f6 := (cell_of_block (o := 2) Q3); have f7 := (cell_of_block (o := 3) Q3)) | skip)))
    all_goals
      go_wp2_with fail
      go_meet
      go_split_ands
      first
        | (refine ⟨y3.heap.size, k3, g3, l3, n3, c3, cap3, gg3, ?_, ?_, ?_, ?_⟩
           · with_reducible rfl
           · with_reducible rfl
           · assumption
           · exact one_allocC hu3)
        | (refine ⟨y2.heap.size, k3, g3, l3, n3, c3, cap3, gg3, ?_, ?_, ?_, ?_⟩
           · with_reducible rfl
           · with_reducible rfl
           · assumption
           · exact four_storesC Q3 hu3 hg3 (by first | exact Nat.lt_of_lt_of_le (lt_of_block Q2) (Nat.le_refl _) | exact Nat.lt_of_lt_of_le (lt_of_block Q2) (by simp) | (simp; done)))
        | (refine ⟨y1.heap.size, k3, g3, l3, n3, c3, cap3, gg3, ?_, ?_, ?_, ?_⟩
           · with_reducible rfl
           · with_reducible rfl
           · assumption
           · exact four_storesC Q3 hu3 hg3 (by first | exact Nat.lt_of_lt_of_le (lt_of_block Q2) (Nat.le_refl _) | exact Nat.lt_of_lt_of_le (lt_of_block Q2) (by simp) | (simp; done)))
        | (refine ⟨z1.heap.size, k3, g3, l3, n3, c3, cap3, gg3, ?_, ?_, ?_, ?_⟩
           · with_reducible rfl
           · with_reducible rfl
           · assumption
           · exact four_storesC Q3 hu3 hg3 (by first | exact Nat.lt_of_lt_of_le (lt_of_block Q2) (Nat.le_refl _) | exact Nat.lt_of_lt_of_le (lt_of_block Q2) (by simp) | (simp; done)))
  case rest =>
  obtain ⟨b6, k6, g6, l6, n6, c6, cap6, f6, rfl, rfl, hb, e6a, e6b, e6c, e6d, hw6⟩ := hcut
  replace x0 := cell_keep x0 hb
  replace x1 := cell_keep x1 hb
  replace x2 := cell_keep x2 hb
  replace x3 := cell_keep x3 hb
  replace x4 := cell_keep x4 hb
  replace x5 := cell_keep x5 hb
  replace x6 := cell_keep x6 hb
  replace x7 := cell_keep x7 hb
  replace hA := hA.below hb
  replace hU := hU.below hb
  replace hz := below_trans hz hb
  have hSw : w.heap.size + 1 < wc.heap.size := World.block_lt_of_cell? _ _ x4
  have hlb6 : b6 < wc.heap.size := World.block_lt_of_cell? _ _ e6a
  have hl6 := hw6.lt
  clear hb
  go_wp2_with fail
  refine (toCoer_any t _ _ _ hA hn1).mono ?_
  rintro e y4 ⟨v4, f4, rfl, h4, hf4, hb4⟩
  obtain ⟨k4, g4, l4, n4, c4, cap4, rfl⟩ := h4.agg
  have hb4a : Below y4.heap.size y4 (y4.alloc (Obj.cells #[.int .i64 k4, .int .i64 g4, .int .i64 l4, .slice c4 n4 cap4] 44)) := (Below.refl _ _).alloc (Nat.le_refl _) _
  have hR4 := hf4.within
  have hS4 := hb4.size
  have hb := below_trans hb4 hb4a
  replace x0 := cell_keep x0 hb
  replace x1 := cell_keep x1 hb
  replace x2 := cell_keep x2 hb
  replace x3 := cell_keep x3 hb
  replace x4 := cell_keep x4 hb
  replace x5 := cell_keep x5 hb
  replace x6 := cell_keep x6 hb
  replace x7 := cell_keep x7 hb
  replace e6a := cell_keep e6a hb
  replace e6b := cell_keep e6b hb
  replace e6c := cell_keep e6c hb
  replace e6d := cell_keep e6d hb
  replace hA := hA.below hb
  replace hU := hU.below hb
  replace hw6 := hw6.below hb
  replace hz := below_trans hz hb
  have h4 := h4.below hb4a
  have hf4 := hf4.below hb4a
  clear hb hb4 hb4a
  go_wp2_with fail
  refine (toCoer_any u _ _ _ hU hn2).mono ?_
  rintro e y5 ⟨v5, f5, rfl, h5, hf5, hb5⟩
  obtain ⟨k5, g5, l5, n5, c5, cap5, rfl⟩ := h5.agg
  have hb5a : Below y5.heap.size y5 (y5.alloc (Obj.cells #[.int .i64 k5, .int .i64 g5, .int .i64 l5, .slice c5 n5 cap5] 44)) := (Below.refl _ _).alloc (Nat.le_refl _) _
  have hR5 : Within (y4.heap.size + 1) y5.heap.size f5 := by have := hf5.within; simpa using this
  have hS5 : y4.heap.size + 1 ≤ y5.heap.size := by have := hb5.size; simp at this; omega
  have hb := below_trans hb5 hb5a
  obtain ⟨q0, q1, q2, q3⟩ := box4 hb
  replace x0 := cell_keep x0 hb
  replace x1 := cell_keep x1 hb
  replace x2 := cell_keep x2 hb
  replace x3 := cell_keep x3 hb
  replace x4 := cell_keep x4 hb
  replace x5 := cell_keep x5 hb
  replace x6 := cell_keep x6 hb
  replace x7 := cell_keep x7 hb
  replace e6a := cell_keep e6a hb
  replace e6b := cell_keep e6b hb
  replace e6c := cell_keep e6c hb
  replace e6d := cell_keep e6d hb
  replace hA := hA.below hb
  replace hU := hU.below hb
  replace hw6 := hw6.below hb
  replace h4 := h4.below hb
  replace hz := below_trans hz hb
  replace hf4 := hf4.below hb
  replace h5 := h5.below hb5a
  replace hf5 := hf5.below hb5a
  clear hb hb5 hb5a
  go_wp2_with fail
  refine (implCompose t u _ _ _ _ _ h4 h5).mono ?_
  rintro e y6 ⟨vg, fg, rfl, hg, hfg, hb6⟩
  obtain ⟨kg, gg, lg, ng, cg, capg, rfl⟩ := hg.agg
  have hb6a : Below y6.heap.size y6 (y6.alloc (Obj.cells #[.int .i64 kg, .int .i64 gg, .int .i64 lg, .slice cg ng capg] 44)) := (Below.refl _ _).alloc (Nat.le_refl _) _
  have hR6 : Within (y5.heap.size + 1) y6.heap.size fg := by have := hfg.within; simpa using this
  have hS6 : y5.heap.size + 1 ≤ y6.heap.size := by have := hb6.size; simp at this; omega
  have hb := below_trans hb6 hb6a
  obtain ⟨r0, r1, r2, r3⟩ := box4 hb
  replace x0 := cell_keep x0 hb
  replace x1 := cell_keep x1 hb
  replace x2 := cell_keep x2 hb
  replace x3 := cell_keep x3 hb
  replace x4 := cell_keep x4 hb
  replace x5 := cell_keep x5 hb
  replace x6 := cell_keep x6 hb
  replace x7 := cell_keep x7 hb
  replace e6a := cell_keep e6a hb
  replace e6b := cell_keep e6b hb
  replace e6c := cell_keep e6c hb
  replace e6d := cell_keep e6d hb
  replace q0 := cell_keep q0 hb
  replace q1 := cell_keep q1 hb
  replace q2 := cell_keep q2 hb
  replace q3 := cell_keep q3 hb
  replace hA := hA.below hb
  replace hU := hU.below hb
  replace hw6 := hw6.below hb
  replace h4 := h4.below hb
  replace h5 := h5.below hb
  replace hz := below_trans hz hb
  replace hf4 := hf4.below hb
  replace hf5 := hf5.below hb
  replace hg := hg.below hb6a
  replace hfg := hfg.below hb6a
  clear hb hb6 hb6a
  go_wp2_with fail
  refine (eqCoer_any _ _ _ _ _ _ _ hg hw6).mono ?_
  rw [coEq_refl]
  rintro e y7 ⟨rfl, hb⟩
  obtain ⟨m0, m1, m2, m3⟩ := box4 hb
  replace x0 := cell_keep x0 hb
  replace x1 := cell_keep x1 hb
  replace x2 := cell_keep x2 hb
  replace x3 := cell_keep x3 hb
  replace x4 := cell_keep x4 hb
  replace x5 := cell_keep x5 hb
  replace x6 := cell_keep x6 hb
  replace x7 := cell_keep x7 hb
  replace e6a := cell_keep e6a hb
  replace e6b := cell_keep e6b hb
  replace e6c := cell_keep e6c hb
  replace e6d := cell_keep e6d hb
  replace q0 := cell_keep q0 hb
  replace q1 := cell_keep q1 hb
  replace q2 := cell_keep q2 hb
  replace q3 := cell_keep q3 hb
  replace r0 := cell_keep r0 hb
  replace r1 := cell_keep r1 hb
  replace r2 := cell_keep r2 hb
  replace r3 := cell_keep r3 hb
  replace hA := hA.below hb
  replace hU := hU.below hb
  replace hw6 := hw6.below hb
  replace h4 := h4.below hb
  replace h5 := h5.below hb
  replace hg := hg.below hb
  replace hz := below_trans hz hb
  replace hf4 := hf4.below hb
  replace hf5 := hf5.below hb
  replace hfg := hfg.below hb
  clear hb
  go_wp2_with fail
  go_region_held3 (fun w' => Below y7.heap.size y7 w' ∧ w'.cell? ⟨w.heap.size, 0, none⟩ = some (.int .i64 k) ∧ w'.cell? ⟨w.heap.size, 1, none⟩ = some (.int .i64 g) ∧ w'.cell? ⟨w.heap.size, 2, none⟩ = some (.int .i64 l) ∧ w'.cell? ⟨w.heap.size, 3, none⟩ = some (.slice a m cap) ∧ w'.cell? ⟨y4.heap.size, 0, none⟩ = some (.int .i64 k4) ∧ w'.cell? ⟨y4.heap.size, 1, none⟩ = some (.int .i64 g4) ∧ w'.cell? ⟨y4.heap.size, 2, none⟩ = some (.int .i64 l4) ∧ w'.cell? ⟨y4.heap.size, 3, none⟩ = some (.slice c4 n4 cap4))
    ((refine (fun hB => ⟨hB, cell_keep x0 hB, cell_keep x1 hB, cell_keep x2 hB, cell_keep x3 hB, cell_keep q0 hB, cell_keep q1 hB, cell_keep q2 hB, cell_keep q3 hB⟩ : Below y7.heap.size y7 _ → _) ?_; (first | exact below_drew y7 | exact hk1 | exact hk2)))
    (first
      | (go_at_call 13; refine (toCoer_any t _ _ _ (hA.below (below_drew y7)) hn1).mono ?_; rintro e y8 ⟨uu8, gg8, rfl, hu, hgg, hy⟩; have hk1 := below_trans (below_drew y7) hy)
      | (go_at_call 15; refine (eqCoer_any t t _ _ _ _ _ (h4.below hk1) hu).mono ?_; rw [coEq_refl]; rintro e y9 ⟨rfl, hyy⟩; have hk2 := below_trans hk1 hyy))
  replace x0 := cell_keep x0 hk2
  replace x1 := cell_keep x1 hk2
  replace x2 := cell_keep x2 hk2
  replace x3 := cell_keep x3 hk2
  replace x4 := cell_keep x4 hk2
  replace x5 := cell_keep x5 hk2
  replace x6 := cell_keep x6 hk2
  replace x7 := cell_keep x7 hk2
  replace e6a := cell_keep e6a hk2
  replace e6b := cell_keep e6b hk2
  replace e6c := cell_keep e6c hk2
  replace e6d := cell_keep e6d hk2
  replace q0 := cell_keep q0 hk2
  replace q1 := cell_keep q1 hk2
  replace q2 := cell_keep q2 hk2
  replace q3 := cell_keep q3 hk2
  replace r0 := cell_keep r0 hk2
  replace r1 := cell_keep r1 hk2
  replace r2 := cell_keep r2 hk2
  replace r3 := cell_keep r3 hk2
  replace m0 := cell_keep m0 hk2
  replace m1 := cell_keep m1 hk2
  replace m2 := cell_keep m2 hk2
  replace m3 := cell_keep m3 hk2
  replace hA := hA.below hk2
  replace hU := hU.below hk2
  replace hw6 := hw6.below hk2
  replace h4 := h4.below hk2
  replace h5 := h5.below hk2
  replace hg := hg.below hk2
  replace hz := below_trans hz hk2
  replace hf4 := hf4.below hk2
  replace hf5 := hf5.below hk2
  replace hfg := hfg.below hk2
  clear hk1 hk2 hu hgg hy hyy
  go_wp2_with fail
  go_region_held3 (fun w' => Below y9.heap.size y9 w' ∧ w'.cell? ⟨w.heap.size + 1, 0, none⟩ = some (.int .i64 k') ∧ w'.cell? ⟨w.heap.size + 1, 1, none⟩ = some (.int .i64 g') ∧ w'.cell? ⟨w.heap.size + 1, 2, none⟩ = some (.int .i64 l') ∧ w'.cell? ⟨w.heap.size + 1, 3, none⟩ = some (.slice a' m' cap') ∧ w'.cell? ⟨y5.heap.size, 0, none⟩ = some (.int .i64 k5) ∧ w'.cell? ⟨y5.heap.size, 1, none⟩ = some (.int .i64 g5) ∧ w'.cell? ⟨y5.heap.size, 2, none⟩ = some (.int .i64 l5) ∧ w'.cell? ⟨y5.heap.size, 3, none⟩ = some (.slice c5 n5 cap5))
    ((refine (fun hB => ⟨hB, cell_keep x4 hB, cell_keep x5 hB, cell_keep x6 hB, cell_keep x7 hB, cell_keep r0 hB, cell_keep r1 hB, cell_keep r2 hB, cell_keep r3 hB⟩ : Below y9.heap.size y9 _ → _) ?_; (first | exact below_drew y9 | exact hk1 | exact hk2)))
    (first
      | (go_at_call 13; refine (toCoer_any u _ _ _ (hU.below (below_drew y9)) hn2).mono ?_; rintro e y10 ⟨uu10, gg10, rfl, hu, hgg, hy⟩; have hk1 := below_trans (below_drew y9) hy)
      | (go_at_call 15; refine (eqCoer_any u u _ _ _ _ _ (h5.below hk1) hu).mono ?_; rw [coEq_refl]; rintro e y11 ⟨rfl, hyy⟩; have hk2 := below_trans hk1 hyy))
  replace x0 := cell_keep x0 hk2
  replace x1 := cell_keep x1 hk2
  replace x2 := cell_keep x2 hk2
  replace x3 := cell_keep x3 hk2
  replace x4 := cell_keep x4 hk2
  replace x5 := cell_keep x5 hk2
  replace x6 := cell_keep x6 hk2
  replace x7 := cell_keep x7 hk2
  replace e6a := cell_keep e6a hk2
  replace e6b := cell_keep e6b hk2
  replace e6c := cell_keep e6c hk2
  replace e6d := cell_keep e6d hk2
  replace q0 := cell_keep q0 hk2
  replace q1 := cell_keep q1 hk2
  replace q2 := cell_keep q2 hk2
  replace q3 := cell_keep q3 hk2
  replace r0 := cell_keep r0 hk2
  replace r1 := cell_keep r1 hk2
  replace r2 := cell_keep r2 hk2
  replace r3 := cell_keep r3 hk2
  replace m0 := cell_keep m0 hk2
  replace m1 := cell_keep m1 hk2
  replace m2 := cell_keep m2 hk2
  replace m3 := cell_keep m3 hk2
  replace hA := hA.below hk2
  replace hU := hU.below hk2
  replace hw6 := hw6.below hk2
  replace h4 := h4.below hk2
  replace h5 := h5.below hk2
  replace hg := hg.below hk2
  replace hz := below_trans hz hk2
  replace hf4 := hf4.below hk2
  replace hf5 := hf5.below hk2
  replace hfg := hfg.below hk2
  clear hk1 hk2 hu hgg hy hyy
  go_wp2_with fail
  have hRA : Within 0 w.heap.size fp1 := fun b hb => ⟨Nat.zero_le _, hlA b hb⟩
  have hRU : Within 0 w.heap.size fp2 := fun b hb => ⟨Nat.zero_le _, hlU b hb⟩
  have hRw : Within 0 wc.heap.size f6 := fun b hb => ⟨Nat.zero_le _, hl6 b hb⟩
  refine (markCoer_any t _ _ _ _ h4 hf4.1 (fun b hb => (hf4.2 b hb).2.2) (by omega) (by omega)).mono ?_
  rintro e y12 ⟨rfl, h4, hon⟩
  replace x0 := cell_only x0 hon (by first | exact hR4.low (by omega) | exact hR4.high (by omega))
  replace x1 := cell_only x1 hon (by first | exact hR4.low (by omega) | exact hR4.high (by omega))
  replace x2 := cell_only x2 hon (by first | exact hR4.low (by omega) | exact hR4.high (by omega))
  replace x3 := cell_only x3 hon (by first | exact hR4.low (by omega) | exact hR4.high (by omega))
  replace x4 := cell_only x4 hon (by first | exact hR4.low (by omega) | exact hR4.high (by omega))
  replace x5 := cell_only x5 hon (by first | exact hR4.low (by omega) | exact hR4.high (by omega))
  replace x6 := cell_only x6 hon (by first | exact hR4.low (by omega) | exact hR4.high (by omega))
  replace x7 := cell_only x7 hon (by first | exact hR4.low (by omega) | exact hR4.high (by omega))
  replace e6a := cell_only e6a hon (by first | exact hR4.low (by omega) | exact hR4.high (by omega))
  replace e6b := cell_only e6b hon (by first | exact hR4.low (by omega) | exact hR4.high (by omega))
  replace e6c := cell_only e6c hon (by first | exact hR4.low (by omega) | exact hR4.high (by omega))
  replace e6d := cell_only e6d hon (by first | exact hR4.low (by omega) | exact hR4.high (by omega))
  replace q0 := cell_only q0 hon (by first | exact hR4.low (by omega) | exact hR4.high (by omega))
  replace q1 := cell_only q1 hon (by first | exact hR4.low (by omega) | exact hR4.high (by omega))
  replace q2 := cell_only q2 hon (by first | exact hR4.low (by omega) | exact hR4.high (by omega))
  replace q3 := cell_only q3 hon (by first | exact hR4.low (by omega) | exact hR4.high (by omega))
  replace r0 := cell_only r0 hon (by first | exact hR4.low (by omega) | exact hR4.high (by omega))
  replace r1 := cell_only r1 hon (by first | exact hR4.low (by omega) | exact hR4.high (by omega))
  replace r2 := cell_only r2 hon (by first | exact hR4.low (by omega) | exact hR4.high (by omega))
  replace r3 := cell_only r3 hon (by first | exact hR4.low (by omega) | exact hR4.high (by omega))
  replace m0 := cell_only m0 hon (by first | exact hR4.low (by omega) | exact hR4.high (by omega))
  replace m1 := cell_only m1 hon (by first | exact hR4.low (by omega) | exact hR4.high (by omega))
  replace m2 := cell_only m2 hon (by first | exact hR4.low (by omega) | exact hR4.high (by omega))
  replace m3 := cell_only m3 hon (by first | exact hR4.low (by omega) | exact hR4.high (by omega))
  replace hA := hA.only hon (hR4.apart hRA (by omega))
  replace hU := hU.only hon (hR4.apart hRU (by omega))
  replace hw6 := hw6.only hon (hR4.apart hRw (by omega))
  replace h5 := h5.only hon (hR4.apart hR5 (by omega))
  replace hg := hg.only hon (hR4.apart hR6 (by omega))
  replace hz := belowOnly hz hon (by have := hz.size; omega) (fun b hb => by have := (hR4 b hb).1; omega)
  replace hf4 := hf4.only hon
  replace hf5 := hf5.only hon
  replace hfg := hfg.only hon
  clear hon
  go_wp2_with fail
  refine (markCoer_any u _ _ _ _ h5 hf5.1 (fun b hb => (hf5.2 b hb).2.2) (by omega) (by omega)).mono ?_
  rintro e y13 ⟨rfl, h5, hon⟩
  replace x0 := cell_only x0 hon (by first | exact hR5.low (by omega) | exact hR5.high (by omega))
  replace x1 := cell_only x1 hon (by first | exact hR5.low (by omega) | exact hR5.high (by omega))
  replace x2 := cell_only x2 hon (by first | exact hR5.low (by omega) | exact hR5.high (by omega))
  replace x3 := cell_only x3 hon (by first | exact hR5.low (by omega) | exact hR5.high (by omega))
  replace x4 := cell_only x4 hon (by first | exact hR5.low (by omega) | exact hR5.high (by omega))
  replace x5 := cell_only x5 hon (by first | exact hR5.low (by omega) | exact hR5.high (by omega))
  replace x6 := cell_only x6 hon (by first | exact hR5.low (by omega) | exact hR5.high (by omega))
  replace x7 := cell_only x7 hon (by first | exact hR5.low (by omega) | exact hR5.high (by omega))
  replace e6a := cell_only e6a hon (by first | exact hR5.low (by omega) | exact hR5.high (by omega))
  replace e6b := cell_only e6b hon (by first | exact hR5.low (by omega) | exact hR5.high (by omega))
  replace e6c := cell_only e6c hon (by first | exact hR5.low (by omega) | exact hR5.high (by omega))
  replace e6d := cell_only e6d hon (by first | exact hR5.low (by omega) | exact hR5.high (by omega))
  replace q0 := cell_only q0 hon (by first | exact hR5.low (by omega) | exact hR5.high (by omega))
  replace q1 := cell_only q1 hon (by first | exact hR5.low (by omega) | exact hR5.high (by omega))
  replace q2 := cell_only q2 hon (by first | exact hR5.low (by omega) | exact hR5.high (by omega))
  replace q3 := cell_only q3 hon (by first | exact hR5.low (by omega) | exact hR5.high (by omega))
  replace r0 := cell_only r0 hon (by first | exact hR5.low (by omega) | exact hR5.high (by omega))
  replace r1 := cell_only r1 hon (by first | exact hR5.low (by omega) | exact hR5.high (by omega))
  replace r2 := cell_only r2 hon (by first | exact hR5.low (by omega) | exact hR5.high (by omega))
  replace r3 := cell_only r3 hon (by first | exact hR5.low (by omega) | exact hR5.high (by omega))
  replace m0 := cell_only m0 hon (by first | exact hR5.low (by omega) | exact hR5.high (by omega))
  replace m1 := cell_only m1 hon (by first | exact hR5.low (by omega) | exact hR5.high (by omega))
  replace m2 := cell_only m2 hon (by first | exact hR5.low (by omega) | exact hR5.high (by omega))
  replace m3 := cell_only m3 hon (by first | exact hR5.low (by omega) | exact hR5.high (by omega))
  replace hA := hA.only hon (hR5.apart hRA (by omega))
  replace hU := hU.only hon (hR5.apart hRU (by omega))
  replace hw6 := hw6.only hon (hR5.apart hRw (by omega))
  replace hg := hg.only hon (hR5.apart hR6 (by omega))
  replace hz := belowOnly hz hon (by have := hz.size; omega) (fun b hb => by have := (hR5 b hb).1; omega)
  replace hf4 := hf4.only hon
  replace hf5 := hf5.only hon
  replace hfg := hfg.only hon
  clear hon
  go_wp2_with fail
  refine (eqCoer_any _ _ _ _ _ _ _ hg hw6).mono ?_
  rw [coEq_refl]
  rintro e y14 ⟨rfl, hb⟩
  replace x0 := cell_keep x0 hb
  replace x1 := cell_keep x1 hb
  replace x2 := cell_keep x2 hb
  replace x3 := cell_keep x3 hb
  replace x4 := cell_keep x4 hb
  replace x5 := cell_keep x5 hb
  replace x6 := cell_keep x6 hb
  replace x7 := cell_keep x7 hb
  replace e6a := cell_keep e6a hb
  replace e6b := cell_keep e6b hb
  replace e6c := cell_keep e6c hb
  replace e6d := cell_keep e6d hb
  replace q0 := cell_keep q0 hb
  replace q1 := cell_keep q1 hb
  replace q2 := cell_keep q2 hb
  replace q3 := cell_keep q3 hb
  replace r0 := cell_keep r0 hb
  replace r1 := cell_keep r1 hb
  replace r2 := cell_keep r2 hb
  replace r3 := cell_keep r3 hb
  replace m0 := cell_keep m0 hb
  replace m1 := cell_keep m1 hb
  replace m2 := cell_keep m2 hb
  replace m3 := cell_keep m3 hb
  replace hA := hA.below hb
  replace hU := hU.below hb
  replace hw6 := hw6.below hb
  replace hg := hg.below hb
  replace hz := below_trans hz hb
  replace hfg := hfg.below hb
  clear hb hf4 hf5
  go_wp2_with fail
  refine (markCoer_any _ _ _ _ _ hg hfg.1 (fun b hb => (hfg.2 b hb).2.2) (by omega) (by omega)).mono ?_
  rintro e y15 ⟨rfl, hg, hon⟩
  replace x0 := cell_only x0 hon (by first | exact hR6.low (by omega) | exact hR6.high (by omega))
  replace x1 := cell_only x1 hon (by first | exact hR6.low (by omega) | exact hR6.high (by omega))
  replace x2 := cell_only x2 hon (by first | exact hR6.low (by omega) | exact hR6.high (by omega))
  replace x3 := cell_only x3 hon (by first | exact hR6.low (by omega) | exact hR6.high (by omega))
  replace x4 := cell_only x4 hon (by first | exact hR6.low (by omega) | exact hR6.high (by omega))
  replace x5 := cell_only x5 hon (by first | exact hR6.low (by omega) | exact hR6.high (by omega))
  replace x6 := cell_only x6 hon (by first | exact hR6.low (by omega) | exact hR6.high (by omega))
  replace x7 := cell_only x7 hon (by first | exact hR6.low (by omega) | exact hR6.high (by omega))
  replace e6a := cell_only e6a hon (by first | exact hR6.low (by omega) | exact hR6.high (by omega))
  replace e6b := cell_only e6b hon (by first | exact hR6.low (by omega) | exact hR6.high (by omega))
  replace e6c := cell_only e6c hon (by first | exact hR6.low (by omega) | exact hR6.high (by omega))
  replace e6d := cell_only e6d hon (by first | exact hR6.low (by omega) | exact hR6.high (by omega))
  replace q0 := cell_only q0 hon (by first | exact hR6.low (by omega) | exact hR6.high (by omega))
  replace q1 := cell_only q1 hon (by first | exact hR6.low (by omega) | exact hR6.high (by omega))
  replace q2 := cell_only q2 hon (by first | exact hR6.low (by omega) | exact hR6.high (by omega))
  replace q3 := cell_only q3 hon (by first | exact hR6.low (by omega) | exact hR6.high (by omega))
  replace r0 := cell_only r0 hon (by first | exact hR6.low (by omega) | exact hR6.high (by omega))
  replace r1 := cell_only r1 hon (by first | exact hR6.low (by omega) | exact hR6.high (by omega))
  replace r2 := cell_only r2 hon (by first | exact hR6.low (by omega) | exact hR6.high (by omega))
  replace r3 := cell_only r3 hon (by first | exact hR6.low (by omega) | exact hR6.high (by omega))
  replace m0 := cell_only m0 hon (by first | exact hR6.low (by omega) | exact hR6.high (by omega))
  replace m1 := cell_only m1 hon (by first | exact hR6.low (by omega) | exact hR6.high (by omega))
  replace m2 := cell_only m2 hon (by first | exact hR6.low (by omega) | exact hR6.high (by omega))
  replace m3 := cell_only m3 hon (by first | exact hR6.low (by omega) | exact hR6.high (by omega))
  replace hA := hA.only hon (hR6.apart hRA (by omega))
  replace hU := hU.only hon (hR6.apart hRU (by omega))
  replace hw6 := hw6.only hon (hR6.apart hRw (by omega))
  replace hz := belowOnly hz hon (by have := hz.size; omega) (fun b hb => by have := (hR6 b hb).1; omega)
  clear hon hfg
  have hq0 : (0 : Int) ≤ 1 + 3 * ((cmpOf t u).cnt : Int) := by omega
  go_wp2_with fail
  refine (heldCoer_any _ _ _ _ _ hg (by omega) (by omega)).mono ?_
  rintro e y16 ⟨rfl, hb⟩
  replace x0 := cell_keep x0 hb
  replace x1 := cell_keep x1 hb
  replace x2 := cell_keep x2 hb
  replace x3 := cell_keep x3 hb
  replace x4 := cell_keep x4 hb
  replace x5 := cell_keep x5 hb
  replace x6 := cell_keep x6 hb
  replace x7 := cell_keep x7 hb
  replace e6a := cell_keep e6a hb
  replace e6b := cell_keep e6b hb
  replace e6c := cell_keep e6c hb
  replace e6d := cell_keep e6d hb
  replace q0 := cell_keep q0 hb
  replace q1 := cell_keep q1 hb
  replace q2 := cell_keep q2 hb
  replace q3 := cell_keep q3 hb
  replace r0 := cell_keep r0 hb
  replace r1 := cell_keep r1 hb
  replace r2 := cell_keep r2 hb
  replace r3 := cell_keep r3 hb
  replace m0 := cell_keep m0 hb
  replace m1 := cell_keep m1 hb
  replace m2 := cell_keep m2 hb
  replace m3 := cell_keep m3 hb
  replace hA := hA.below hb
  replace hU := hU.below hb
  replace hw6 := hw6.below hb
  replace hg := hg.below hb
  replace hz := below_trans hz hb
  clear hb
  go_wp2_with fail
  go_cut [15, 16] (fun s6 s7 wx => ∃ (b6 : Nat) (k3 g3 l3 : Int) (n3 : Nat) (c3 : Option Addr) (cap3 : Nat) (gf : List Nat), s6 = .pointer (some ⟨b6, 0, none⟩) ∧ s7 = .bool (cmpOk t u) ∧ Below y16.heap.size y16 wx ∧ wx.cell? ⟨b6, 0, none⟩ = some (.int .i64 k3) ∧ wx.cell? ⟨b6, 1, none⟩ = some (.int .i64 g3) ∧ wx.cell? ⟨b6, 2, none⟩ = some (.int .i64 l3) ∧ wx.cell? ⟨b6, 3, none⟩ = some (.slice c3 n3 cap3) ∧ (cmpOf t u).At wx (.agg #[.int .i64 k3, .int .i64 g3, .int .i64 l3, .slice c3 n3 cap3]) gf)
  case first =>
    go_region_held3 (fun w' => Below y16.heap.size y16 w' ∧ w'.cell? ⟨w.heap.size, 0, none⟩ = some (.int .i64 k) ∧ w'.cell? ⟨w.heap.size, 1, none⟩ = some (.int .i64 g) ∧ w'.cell? ⟨w.heap.size, 2, none⟩ = some (.int .i64 l) ∧ w'.cell? ⟨w.heap.size, 3, none⟩ = some (.slice a m cap) ∧ w'.cell? ⟨w.heap.size + 1, 0, none⟩ = some (.int .i64 k') ∧ w'.cell? ⟨w.heap.size + 1, 1, none⟩ = some (.int .i64 g') ∧ w'.cell? ⟨w.heap.size + 1, 2, none⟩ = some (.int .i64 l') ∧ w'.cell? ⟨w.heap.size + 1, 3, none⟩ = some (.slice a' m' cap'))
      ((refine (fun hB => ⟨hB, cell_keep x0 hB, cell_keep x1 hB, cell_keep x2 hB, cell_keep x3 hB, cell_keep x4 hB, cell_keep x5 hB, cell_keep x6 hB, cell_keep x7 hB⟩ : Below y16.heap.size y16 _ → _) ?_; (first | exact below_drew y16 | exact hk3 | exact hk2 | exact hk1 | (go_split_ands; first | exact Below.alloc (by assumption) (Below.size (by assumption)) _ | exact Below.setCell (Below.setCell (Below.setCell (Below.setCell (hk3) (by first | exact hk2.size | exact hk1.size | exact Nat.le_refl _) _) (by first | exact hk2.size | exact hk1.size | exact Nat.le_refl _) _) (by first | exact hk2.size | exact hk1.size | exact Nat.le_refl _) _) (by first | exact hk2.size | exact hk1.size | exact Nat.le_refl _) _))))
      (first
        | (go_at_call_of 13 (Value.agg #[.int .i64 k, .int .i64 g, .int .i64 l, .slice a m cap]); go_split_ands; refine (toCoer_any t _ _ _ (hA.below (by assumption)) hn1).mono ?_; rintro e y1 ⟨u1, g1, rfl, hu1, hg1, hy1⟩; have hk1 : Below y16.heap.size y16 y1 := below_trans (by assumption) hy1; (first | have Q1 : y1.heap[y16.heap.size]? = some (Obj.cells #[.int .i64 0, .int .i64 0, .int .i64 0, .slice none 0 0] 44) := (hy1.block y16.heap.size (by first | (show y16.heap.size < (y16.alloc _).heap.size; simp) | simp)).trans (alloc_new y16 _) | skip))
        | (go_at_call_of 13 (Value.agg #[.int .i64 k', .int .i64 g', .int .i64 l', .slice a' m' cap']); go_split_ands; refine (toCoer_any u _ _ _ (hU.below (by assumption)) hn2).mono ?_; rintro e y2 ⟨u2, g2, rfl, hu2, hg2, hy2⟩; have hk2 : Below y16.heap.size y16 y2 := below_trans (by assumption) hy2; (first | have hu1' := hu1.below hy2 | have hu1' := hu1.below (alloc1 hy2)); (first | have Q2 := (hy2.block _ (lt_of_block Q1)).trans Q1 | have Q2 := (hy2.block y1.heap.size (by simp)).trans (alloc_new y1 _) | skip))
        | (go_at_call 14; go_split_ands; refine (implCompose t u _ _ _ _ _ (by first | exact hu1' | exact hu1'.below ((Below.refl _ _).alloc (Nat.le_refl _) _)) (by first | exact hu2 | exact hu2.below ((Below.refl _ _).alloc (Nat.le_refl _) _))).mono ?_; rintro e y3 ⟨u3, gg3, rfl, hu3, hg3, hy3⟩; obtain ⟨k3, g3, l3, n3, c3, cap3, rfl⟩ := hu3.agg; have hk3 : Below y16.heap.size y16 y3 := below_trans (by assumption) hy3; (first | have Q3 := (hy3.block _ (lt_of_block Q2)).trans Q2 | have Q3 := (hy3.block y2.heap.size (by simp)).trans (alloc_new y2 _) | skip); (first | (have f0 := frozen_of_block (o := 0) Q3; have f1 := frozen_of_block (o := 1) Q3; have f2 := frozen_of_block (o := 2) Q3; have f3 := frozen_of_block (o := 3) Q3; have f4 := (cell_of_block (o := 0) Q3); have f5 := (cell_of_block (o := 1) Q3); have f6 := (cell_of_block (o := 2) Q3); have f7 := (cell_of_block (o := 3) Q3)) | skip)))
    all_goals
      go_wp2_with fail
      go_meet
      go_split_ands
      first
        | (refine ⟨y3.heap.size, k3, g3, l3, n3, c3, cap3, gg3, ?_, ?_, ?_, ?_⟩
           · with_reducible rfl
           · with_reducible rfl
           · assumption
           · exact one_allocC hu3)
        | (refine ⟨y2.heap.size, k3, g3, l3, n3, c3, cap3, gg3, ?_, ?_, ?_, ?_⟩
           · with_reducible rfl
           · with_reducible rfl
           · assumption
           · exact four_storesC Q3 hu3 hg3 (by first | exact Nat.lt_of_lt_of_le (lt_of_block Q2) (Nat.le_refl _) | exact Nat.lt_of_lt_of_le (lt_of_block Q2) (by simp) | (simp; done)))
        | (refine ⟨y1.heap.size, k3, g3, l3, n3, c3, cap3, gg3, ?_, ?_, ?_, ?_⟩
           · with_reducible rfl
           · with_reducible rfl
           · assumption
           · exact four_storesC Q3 hu3 hg3 (by first | exact Nat.lt_of_lt_of_le (lt_of_block Q2) (Nat.le_refl _) | exact Nat.lt_of_lt_of_le (lt_of_block Q2) (by simp) | (simp; done)))
        | (refine ⟨y16.heap.size, k3, g3, l3, n3, c3, cap3, gg3, ?_, ?_, ?_, ?_⟩
           · with_reducible rfl
           · with_reducible rfl
           · assumption
           · exact four_storesC Q3 hu3 hg3 (by first | exact Nat.lt_of_lt_of_le (lt_of_block Q2) (Nat.le_refl _) | exact Nat.lt_of_lt_of_le (lt_of_block Q2) (by simp) | (simp; done)))
  case rest =>
  obtain ⟨b8, k8, g8, l8, n8, c8, cap8, f8, rfl, rfl, hb, e8a, e8b, e8c, e8d, hw8⟩ := hcut
  replace x0 := cell_keep x0 hb
  replace x1 := cell_keep x1 hb
  replace x2 := cell_keep x2 hb
  replace x3 := cell_keep x3 hb
  replace x4 := cell_keep x4 hb
  replace x5 := cell_keep x5 hb
  replace x6 := cell_keep x6 hb
  replace x7 := cell_keep x7 hb
  replace e6a := cell_keep e6a hb
  replace e6b := cell_keep e6b hb
  replace e6c := cell_keep e6c hb
  replace e6d := cell_keep e6d hb
  replace q0 := cell_keep q0 hb
  replace q1 := cell_keep q1 hb
  replace q2 := cell_keep q2 hb
  replace q3 := cell_keep q3 hb
  replace r0 := cell_keep r0 hb
  replace r1 := cell_keep r1 hb
  replace r2 := cell_keep r2 hb
  replace r3 := cell_keep r3 hb
  replace m0 := cell_keep m0 hb
  replace m1 := cell_keep m1 hb
  replace m2 := cell_keep m2 hb
  replace m3 := cell_keep m3 hb
  replace hA := hA.below hb
  replace hU := hU.below hb
  replace hw6 := hw6.below hb
  replace hg := hg.below hb
  replace hz := below_trans hz hb
  clear hb
  go_wp2_with fail
  refine (eqCoer_any _ _ _ _ _ _ _ hw8 hw6).mono ?_
  rw [coEq_refl]
  rintro e y17 ⟨rfl, hb⟩
  replace x0 := cell_keep x0 hb
  replace x1 := cell_keep x1 hb
  replace x2 := cell_keep x2 hb
  replace x3 := cell_keep x3 hb
  replace x4 := cell_keep x4 hb
  replace x5 := cell_keep x5 hb
  replace x6 := cell_keep x6 hb
  replace x7 := cell_keep x7 hb
  replace e6a := cell_keep e6a hb
  replace e6b := cell_keep e6b hb
  replace e6c := cell_keep e6c hb
  replace e6d := cell_keep e6d hb
  replace q0 := cell_keep q0 hb
  replace q1 := cell_keep q1 hb
  replace q2 := cell_keep q2 hb
  replace q3 := cell_keep q3 hb
  replace r0 := cell_keep r0 hb
  replace r1 := cell_keep r1 hb
  replace r2 := cell_keep r2 hb
  replace r3 := cell_keep r3 hb
  replace m0 := cell_keep m0 hb
  replace m1 := cell_keep m1 hb
  replace m2 := cell_keep m2 hb
  replace m3 := cell_keep m3 hb
  replace hA := hA.below hb
  replace hU := hU.below hb
  replace hw6 := hw6.below hb
  replace hg := hg.below hb
  replace hz := below_trans hz hb
  clear hb
  go_wp2_with fail
  refine (heldCoer_any _ _ _ _ _ hg (by omega) (by omega)).mono ?_
  rintro e y18 ⟨rfl, hb⟩
  replace hz := below_trans hz hb
  go_wp2_with fail
  go_ret
  exact ⟨rfl, hz⟩
end Go.Proofs.Ytgekfnodmgkdaaa

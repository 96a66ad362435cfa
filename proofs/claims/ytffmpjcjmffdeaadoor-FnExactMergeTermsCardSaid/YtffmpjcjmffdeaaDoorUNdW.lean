/- The program's TermValid and CountNodes: the grammar of terms without casts. -/
import Derived.Test.YtffmpjcjmffdeaaDoorUNeW
namespace Go.Proofs.YtffmpjcjmffdeaaDoor
open Go.RowKit

theorem size_empty (nm : ByteArray) : (nm.size == 0) = nm.toList.isEmpty := by
  by_cases h : nm.size = 0
  · rw [empty_of_size h, Lib.toList_data]; rfl
  · rw [ne_empty h]; simpa using h

theorem kidsM_none {k : Int} (h : ¬ (1 ≤ k ∧ k ≤ 14)) : kidsM k = -1 := by
  unfold kidsM
  rw [if_neg (by omega), if_neg (by omega), if_neg (by omega), if_neg (by omega)]

theorem minus_ne (n : Nat) : ((-1 : Int) == (n : Int)) = false := by
  rw [beq_eq_false_iff_ne]
  omega

/-- Fields of a node that is no cast. -/
theorem fldG_own {k : Int} (h : k ≠ 14) (nm : ByteArray) (num : Int) (ty fr : Ty) (lb : Int) : fldG k nm num ty fr lb = ownM k nm num ty fr lb := by
  have hj : (k == 14) = false := by simpa using h
  unfold fldG ownM
  rw [if_neg h, if_neg h, hj, size_empty]
  cases (if k = 1 ∨ k = 5 then isNm nm else nm.toList.isEmpty) <;> cases (if k = 5 ∨ k = 13 ∨ k = 14 then vld ty else noTy ty) <;> cases noTy fr <;> cases (lb == 0) <;> simp

theorem nodeG_13 (k : Int) (nm : ByteArray) (num : Int) (ty fr : Ty) (lb : Int) (n : Nat) : nodeG 13 k nm num ty fr lb n = ((kidsM k == (n : Int)) && (k != 14) && ownM k nm num ty fr lb) := by
  unfold nodeG
  by_cases h14 : k = 14
  · subst h14
    simp [hasK]
  by_cases hin : 1 ≤ k ∧ k ≤ 13
  · have h1 : hasK 13 k = true := by
      by_cases h : k ≤ 12
      · simp [hasK, hin.1, h]
      · have : k = 13 := by omega
        simp [hasK, this]
    have h2 : (k != 14) = true := by simpa using h14
    rw [h1, h2, fldG_own h14]
    simp
  · rw [kidsM_none (by omega), minus_ne]
    simp

theorem shpG_13 : ∀ (d : Nat) (t : Tm), shpG 13 d t = shpM d t
  | 0, _ => rfl
  | d + 1, .mk k nm num ty fr lb ts => by
    simp only [shpG, shpM, nodeG_13]
    congr 1
    exact List.all_congr rfl (fun t => shpG_13 d t)

theorem cntN_cw (t : Tm) : cntN t = cwG 13 30 12 t := by
  unfold cntN cwG vldM
  rw [shpG_13]
  simp only [Bool.and_eq_true, decide_eq_true_eq]

theorem cntN_pos (t : Tm) : decide (cntN t > 0) = vldM t := by
  unfold cntN
  have := cntD_pos 12 t
  cases vldM t
  · simp
  · simp; omega

set_option maxHeartbeats 400000 in
theorem plainTerms_any (w : World) : Calls Tryd.prog 98 #[] w fun e w' => e = .returned (.agg #[.int .i64 13, .int .i64 30, .int .i64 12]) ∧ Below w.heap.size w w' := by
  go_enter Tryd.func98, Tryd.ntmps98
  go_wp2_with fail
  exact bodyPost_ret (v := .agg #[.int .i64 13, .int .i64 30, .int .i64 12]) (by simp [results, Tryd.results98, go_sem]) rfl ⟨rfl, (Below.refl _ _).alloc (Nat.le_refl _) _⟩

set_option maxHeartbeats 1000000 in
theorem accepts_any (g : Int) (hg : g = 13 ∨ g = 14) (m n : Int) (d : Nat) (hm1 : m ≤ 1000) (hm2 : -1000 ≤ m) (hn1 : n ≤ 100) (hn : n.toNat = d) (t : Tm) (v : Value) (fp : List Nat) (w : World) (hF : Forms w) (hat : t.At w v fp) :
    Calls Tryd.prog 101 #[.agg #[.int .i64 g, .int .i64 m, .int .i64 n], v] w fun e w' => e = .returned (.bool (decide (0 < cwG g m d t))) ∧ Below w.heap.size w w' := by
  obtain ⟨k, nm, num, k1, n1, a1, c1, k2, n2, a2, c2, lb, n3, a3, c3, rfl⟩ := hat.agg
  have hb0 : Below w.heap.size w ((w.alloc (Obj.cells #[.int .i64 g, .int .i64 m, .int .i64 n] 119)).alloc (Obj.cells #[.int .i64 k, .string nm, .int .i64 num, .int .i64 k1, .slice a1 n1 c1, .int .i64 k2, .slice a2 n2 c2, .int .i64 lb, .slice a3 n3 c3] 35)) := ((Below.refl _ _).alloc (Nat.le_refl _) _).alloc (by simp) _
  have hr := cwG_range (g := g) (m := m) (d := d) (t := t)
  have HC := hid (count_any g hg d t _ _ m n _ hm1 hm2 hn1 hn (hF.below hb0) (hat.below hb0))
  have HB := hid hb0
  generalize cwG g m d t = c at *
  clear hn hb0 hat hF hg
  go_enter Tryd.func101, Tryd.ntmps101
  go_wp2_with fail
  refine HC.out.mono ?_
  rintro e w1 ⟨rfl, hb1⟩
  go_wp2_with fail
  go_ret
  exact ⟨rfl, HB.out.trans (hb1.mono HB.out.size)⟩

set_option maxHeartbeats 1000000 in
theorem implTermValid (t : Tm) (v : Value) (fp : List Nat) (w : World) (hF : Forms w) (hat : t.At w v fp) :
    Calls Tryd.prog 43 #[v] w fun e w' => e = .returned (.bool (vldM t)) ∧ Below w.heap.size w w' := by
  obtain ⟨k, nm, num, k1, n1, a1, c1, k2, n2, a2, c2, lb, n3, a3, c3, rfl⟩ := hat.agg
  have hb0 : Below w.heap.size w (w.alloc (Obj.cells #[.int .i64 k, .string nm, .int .i64 num, .int .i64 k1, .slice a1 n1 c1, .int .i64 k2, .slice a2 n2 c2, .int .i64 lb, .slice a3 n3 c3] 35)) := (Below.refl _ _).alloc (Nat.le_refl _) _
  have HE := hid (show decide (0 < cwG 13 30 12 t) = vldM t by rw [← cntN_cw]; exact cntN_pos t)
  obtain ⟨z0, z1, z2, z3, z4, z5, z6, z7, z8⟩ := box9 (Below.refl (w.alloc (Obj.cells #[.int .i64 k, .string nm, .int .i64 num, .int .i64 k1, .slice a1 n1 c1, .int .i64 k2, .slice a2 n2 c2, .int .i64 lb, .slice a3 n3 c3] 35)).heap.size (w.alloc (Obj.cells #[.int .i64 k, .string nm, .int .i64 num, .int .i64 k1, .slice a1 n1 c1, .int .i64 k2, .slice a2 n2 c2, .int .i64 lb, .slice a3 n3 c3] 35)))
  have HB := hid hb0
  have HA := hid hat
  have HF := hid hF
  clear hb0 hat hF
  go_enter Tryd.func43, Tryd.ntmps43
  go_wp2_with fail
  go_region_held3 (fun w' => Below (w.alloc (Obj.cells #[.int .i64 k, .string nm, .int .i64 num, .int .i64 k1, .slice a1 n1 c1, .int .i64 k2, .slice a2 n2 c2, .int .i64 lb, .slice a3 n3 c3] 35)).heap.size (w.alloc (Obj.cells #[.int .i64 k, .string nm, .int .i64 num, .int .i64 k1, .slice a1 n1 c1, .int .i64 k2, .slice a2 n2 c2, .int .i64 lb, .slice a3 n3 c3] 35)) w' ∧ w'.cell? ⟨w.heap.size, 0, none⟩ = some (.int .i64 k) ∧ w'.cell? ⟨w.heap.size, 1, none⟩ = some (.string nm) ∧ w'.cell? ⟨w.heap.size, 2, none⟩ = some (.int .i64 num) ∧ w'.cell? ⟨w.heap.size, 3, none⟩ = some (.int .i64 k1) ∧ w'.cell? ⟨w.heap.size, 4, none⟩ = some (.slice a1 n1 c1) ∧ w'.cell? ⟨w.heap.size, 5, none⟩ = some (.int .i64 k2) ∧ w'.cell? ⟨w.heap.size, 6, none⟩ = some (.slice a2 n2 c2) ∧ w'.cell? ⟨w.heap.size, 7, none⟩ = some (.int .i64 lb) ∧ w'.cell? ⟨w.heap.size, 8, none⟩ = some (.slice a3 n3 c3))
    ((refine (fun hB => ⟨hB, cell_keep z0 hB, cell_keep z1 hB, cell_keep z2 hB, cell_keep z3 hB, cell_keep z4 hB, cell_keep z5 hB, cell_keep z6 hB, cell_keep z7 hB, cell_keep z8 hB⟩ : Below (w.alloc (Obj.cells #[.int .i64 k, .string nm, .int .i64 num, .int .i64 k1, .slice a1 n1 c1, .int .i64 k2, .slice a2 n2 c2, .int .i64 lb, .slice a3 n3 c3] 35)).heap.size (w.alloc (Obj.cells #[.int .i64 k, .string nm, .int .i64 num, .int .i64 k1, .slice a1 n1 c1, .int .i64 k2, .slice a2 n2 c2, .int .i64 lb, .slice a3 n3 c3] 35)) _ → _) ?_; (first | exact below_drew _ | exact hk2 | exact hk1)))
    (first
      | (go_at_call 98; refine (plainTerms_any _).mono ?_; rintro e w1 ⟨rfl, hy1⟩; have hk1 := below_trans (below_drew _) hy1)
      | (go_at_call 101; refine (accepts_any 13 (by decide) 30 12 12 (by omega) (by omega) (by omega) rfl t _ _ _ (HF.out.below (below_trans HB.out hk1)) (HA.out.below (below_trans HB.out hk1))).mono ?_; rintro e w2 ⟨rfl, hy2⟩; have hk2 := below_trans hk1 hy2))
  go_wp2_with fail
  go_ret
  exact ⟨ret_b HE.out, below_trans HB.out hk2⟩

/-! A node of a plain term, by the forms. -/

theorem frm_shows13 (j : Nat) (h1 : 1 ≤ j) (h2 : j < 14) : showsB (frm j) 110 = decide (j = 1 ∨ j = 5) ∧ showsB (frm j) 100 = decide (j = 2) ∧ showsB (frm j) 116 = decide (j = 5 ∨ j = 13) := by
  obtain ⟨s1, s2, s3, -, -⟩ := frm_shows j h1 (by omega)
  refine ⟨s1, s2, s3.trans ?_⟩
  congr 1
  apply propext
  omega

/-- A node is right but for what lies below it. -/
def nodeB (k : Int) (nm : ByteArray) (num : Int) (ty fr : Ty) (lb : Int) (n : Nat) : Bool := (kidsM k == (n : Int)) && (k != 14) && ownM k nm num ty fr lb

theorem nodeB_eq (j : Nat) (h1 : 1 ≤ j) (h2 : j < 14) (nm : ByteArray) (num : Int) (ty fr : Ty) (lb : Int) (n : Nat) :
    nodeB (j : Int) nm num ty fr lb n = ((kidsM j == (n : Int)) && (if showsB (frm j) 110 then isNm nm else nm.toList.isEmpty) && (if showsB (frm j) 100 then decide (0 ≤ num) && decide (num ≤ 999) else num == 0) && (if showsB (frm j) 116 then vld ty else noTy ty) && noTy fr && (lb == 0)) := by
  obtain ⟨s1, s2, s3⟩ := frm_shows13 j h1 h2
  have he : (nm.size == 0) = nm.toList.isEmpty := by
    by_cases h : nm.size = 0
    · rw [empty_of_size h, Lib.toList_data]; rfl
    · rw [ne_empty h]; simpa using h
  have hj : ((j : Int) != 14) = true := by simp; omega
  have hj' : ((j : Int) == 14) = false := by simp; omega
  have e1 : (((j : Int) = 1 ∨ (j : Int) = 5)) = (j = 1 ∨ j = 5) := by apply propext; omega
  have e2 : (((j : Int) = 5 ∨ (j : Int) = 13 ∨ (j : Int) = 14)) = (j = 5 ∨ j = 13) := by apply propext; omega
  have e3 : (((j : Int) = 2)) = (j = 2) := by apply propext; omega
  unfold nodeB ownM
  rw [s1, s2, s3, he, hj, hj']
  simp only [e1, e2, e3, decide_eq_true_eq, Bool.and_true, Bool.false_or]
  cases (kidsM (j : Int) == (n : Int)) <;> cases (if j = 1 ∨ j = 5 then isNm nm else nm.toList.isEmpty) <;> cases (if j = 5 ∨ j = 13 then vld ty else noTy ty) <;> cases noTy fr <;> cases (lb == 0) <;> simp

theorem nodeB_low {k : Int} (h : ¬ (1 ≤ k ∧ k ≤ 13)) (nm : ByteArray) (num : Int) (ty fr : Ty) (lb : Int) (n : Nat) : nodeB k nm num ty fr lb n = false := by
  unfold nodeB
  by_cases h14 : k = 14
  · subst h14; simp
  · have : kidsM k = -1 := by
      unfold kidsM
      rw [if_neg (by omega), if_neg (by omega), if_neg (by omega), if_neg (by omega)]
    rw [this]
    have : ((-1 : Int) == (n : Int)) = false := by rw [beq_eq_false_iff_ne]; omega
    rw [this]
    rfl

theorem shpM_node (d : Nat) (k : Int) (nm : ByteArray) (num : Int) (ty fr : Ty) (lb : Int) (ts : List Tm) : shpM (d + 1) (.mk k nm num ty fr lb ts) = (nodeB k nm num ty fr lb ts.length && ts.all (shpM d)) := by
  simp only [shpM, nodeB, Bool.and_assoc]

end Go.Proofs.YtffmpjcjmffdeaaDoor

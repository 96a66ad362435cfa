/- The program's TermValid and CountNodes: the grammar of terms without casts. CastValid, of the program; terms with casts as the document has them. -/
import Derived.Test.YtjpmlmdbldcbjaaDoorQNeW
namespace Go.Proofs.YtjpmlmdbldcbjaaDoor
open Go.RowKit

theorem size_empty (nm : ByteArray) : (nm.size == 0) = nm.toList.isEmpty := by
  by_cases h : nm.size = 0
  · rw [empty_of_size h, Lib.toList_data]; rfl
  · rw [ne_empty h]; simpa using h

theorem kidsM_none {k : Int} (h : ¬ (1 ≤ k ∧ k ≤ 14)) : kidsM k = -1 := by
  unfold kidsM
  rw [if_neg (by omega), if_neg (by omega), if_neg (by omega), if_neg (by omega)]

theorem minus_ne (n : Nat) : ((-1 : Int) == (n : Int)) = false := by
  rw [beq_eq_false_iff_ne]
  omega

/-- Fields of a node that is no cast. -/
theorem fldG_own {k : Int} (h : k ≠ 14) (nm : ByteArray) (num : Int) (ty fr : Ty) (lb : Int) : fldG k nm num ty fr lb = ownM k nm num ty fr lb := by
  have hj : (k == 14) = false := by simpa using h
  unfold fldG ownM
  rw [if_neg h, if_neg h, hj, size_empty]
  cases (if k = 1 ∨ k = 5 then isNm nm else nm.toList.isEmpty) <;> cases (if k = 5 ∨ k = 13 ∨ k = 14 then vld ty else noTy ty) <;> cases noTy fr <;> cases (lb == 0) <;> simp

set_option maxHeartbeats 1000000 in
theorem accepts_any (g : Int) (hg : g = 13 ∨ g = 14) (m n : Int) (d : Nat) (hm1 : m ≤ 1000) (hm2 : -1000 ≤ m) (hn1 : n ≤ 100) (hn : n.toNat = d) (t : Tm) (v : Value) (fp : List Nat) (w : World) (hF : Forms w) (hat : t.At w v fp) :
    Calls Tryd.prog 51 #[.agg #[.int .i64 g, .int .i64 m, .int .i64 n], v] w fun e w' => e = .returned (.bool (decide (0 < cwG g m d t))) ∧ Below w.heap.size w w' := by
  obtain ⟨k, nm, num, k1, n1, a1, c1, k2, n2, a2, c2, lb, n3, a3, c3, rfl⟩ := hat.agg
  have hb0 : Below w.heap.size w ((w.alloc (Obj.cells #[.int .i64 g, .int .i64 m, .int .i64 n] 60)).alloc (Obj.cells #[.int .i64 k, .string nm, .int .i64 num, .int .i64 k1, .slice a1 n1 c1, .int .i64 k2, .slice a2 n2 c2, .int .i64 lb, .slice a3 n3 c3] 34)) := ((Below.refl _ _).alloc (Nat.le_refl _) _).alloc (by simp) _
  have hr := cwG_range (g := g) (m := m) (d := d) (t := t)
  have HC := hid (count_any g hg d t _ _ m n _ hm1 hm2 hn1 hn (hF.below hb0) (hat.below hb0))
  have HB := hid hb0
  generalize cwG g m d t = c at *
  clear hn hb0 hat hF hg
  go_enter Tryd.func51, Tryd.ntmps51
  go_wp2_with fail
  refine HC.out.mono ?_
  rintro e w1 ⟨rfl, hb1⟩
  go_wp2_with fail
  go_ret
  exact ⟨rfl, HB.out.trans (hb1.mono HB.out.size)⟩

/-! A node of a plain term, by the forms. -/

end Go.Proofs.YtjpmlmdbldcbjaaDoor

namespace Go.Proofs.YtjpmlmdbldcbjaaDoor
open Go.RowKit

/-- The fields of a cast are right. -/
def own4 (nm : ByteArray) (num : Int) (ty fr : Ty) (lb : Int) : Bool := nm.toList.isEmpty && num == 0 && isLb lb && vld ty && vld fr && cons fr ty

/-- Well formed with casts, down to a depth. -/
def shpC : Nat → Tm → Bool
  | 0, _ => false
  | d + 1, .mk k nm num ty fr lb ts => (kidsM k == (ts.length : Int)) && (k != 13) && (if k = 14 then own4 nm num ty fr lb else ownM k nm num ty fr lb) && ts.all (shpC d)

def vldC (t : Tm) : Bool := shpC 40 t && decide (cntD 40 t ≤ 200)

theorem fldG_14 (nm : ByteArray) (num : Int) (ty fr : Ty) (lb : Int) : fldG 14 nm num ty fr lb = own4 nm num ty fr lb := by
  simp only [fldG, own4, consOf]
  cases nm.toList.isEmpty <;> cases (num == 0) <;> cases isLb lb <;> cases vld ty <;> cases vld fr <;> cases cons fr ty <;> simp

theorem nodeG_14 (k : Int) (nm : ByteArray) (num : Int) (ty fr : Ty) (lb : Int) (n : Nat) : nodeG 14 k nm num ty fr lb n = ((kidsM k == (n : Int)) && (k != 13) && (if k = 14 then own4 nm num ty fr lb else ownM k nm num ty fr lb)) := by
  unfold nodeG
  by_cases h13 : k = 13
  · subst h13
    simp [hasK]
  by_cases hin : 1 ≤ k ∧ k ≤ 14
  · have h1 : hasK 14 k = true := by
      by_cases h : k ≤ 12
      · simp [hasK, hin.1, h]
      · have : k = 14 := by omega
        simp [hasK, this]
    have h2 : (k != 13) = true := by simpa using h13
    rw [h1, h2]
    by_cases h14 : k = 14
    · subst h14
      rw [fldG_14, if_pos rfl]
      simp
    · rw [fldG_own h14, if_neg h14]
      simp
  · rw [kidsM_none (by omega), minus_ne]
    simp

theorem shpG_14 : ∀ (d : Nat) (t : Tm), shpG 14 d t = shpC d t
  | 0, _ => rfl
  | d + 1, .mk k nm num ty fr lb ts => by
    simp only [shpG, shpC, nodeG_14]
    congr 1
    exact List.all_congr rfl (fun t => shpG_14 d t)

theorem cwC_pos (t : Tm) : decide (0 < cwG 14 200 40 t) = vldC t := by
  unfold cwG vldC
  rw [shpG_14]
  have := cntD_pos 40 t
  cases shpC 40 t
  · simp
  · by_cases h : cntD 40 t ≤ 200
    · simp [h]; omega
    · simp [h]

set_option maxHeartbeats 400000 in
theorem castTerms_any (w : World) : Calls Tryd.prog 50 #[] w fun e w' => e = .returned (.agg #[.int .i64 14, .int .i64 200, .int .i64 40]) ∧ Below w.heap.size w w' := by
  go_enter Tryd.func50, Tryd.ntmps50
  go_wp2_with fail
  exact bodyPost_ret (v := .agg #[.int .i64 14, .int .i64 200, .int .i64 40]) (by simp [results, Tryd.results50, go_sem]) rfl ⟨rfl, (Below.refl _ _).alloc (Nat.le_refl _) _⟩

set_option maxHeartbeats 1000000 in
theorem implCastValid (t : Tm) (v : Value) (fp : List Nat) (w : World) (hF : Forms w) (hat : t.At w v fp) :
    Calls Tryd.prog 26 #[v] w fun e w' => e = .returned (.bool (vldC t)) ∧ Below w.heap.size w w' := by
  obtain ⟨k, nm, num, k1, n1, a1, c1, k2, n2, a2, c2, lb, n3, a3, c3, rfl⟩ := hat.agg
  have hb0 : Below w.heap.size w (w.alloc (Obj.cells #[.int .i64 k, .string nm, .int .i64 num, .int .i64 k1, .slice a1 n1 c1, .int .i64 k2, .slice a2 n2 c2, .int .i64 lb, .slice a3 n3 c3] 34)) := (Below.refl _ _).alloc (Nat.le_refl _) _
  have HE := hid (cwC_pos t)
  obtain ⟨z0, z1, z2, z3, z4, z5, z6, z7, z8⟩ := box9 (Below.refl (w.alloc (Obj.cells #[.int .i64 k, .string nm, .int .i64 num, .int .i64 k1, .slice a1 n1 c1, .int .i64 k2, .slice a2 n2 c2, .int .i64 lb, .slice a3 n3 c3] 34)).heap.size (w.alloc (Obj.cells #[.int .i64 k, .string nm, .int .i64 num, .int .i64 k1, .slice a1 n1 c1, .int .i64 k2, .slice a2 n2 c2, .int .i64 lb, .slice a3 n3 c3] 34)))
  have HB := hid hb0
  have HA := hid hat
  have HF := hid hF
  clear hb0 hat hF
  go_enter Tryd.func26, Tryd.ntmps26
  go_wp2_with fail
  go_region_held3 (fun w' => Below (w.alloc (Obj.cells #[.int .i64 k, .string nm, .int .i64 num, .int .i64 k1, .slice a1 n1 c1, .int .i64 k2, .slice a2 n2 c2, .int .i64 lb, .slice a3 n3 c3] 34)).heap.size (w.alloc (Obj.cells #[.int .i64 k, .string nm, .int .i64 num, .int .i64 k1, .slice a1 n1 c1, .int .i64 k2, .slice a2 n2 c2, .int .i64 lb, .slice a3 n3 c3] 34)) w' ∧ w'.cell? ⟨w.heap.size, 0, none⟩ = some (.int .i64 k) ∧ w'.cell? ⟨w.heap.size, 1, none⟩ = some (.string nm) ∧ w'.cell? ⟨w.heap.size, 2, none⟩ = some (.int .i64 num) ∧ w'.cell? ⟨w.heap.size, 3, none⟩ = some (.int .i64 k1) ∧ w'.cell? ⟨w.heap.size, 4, none⟩ = some (.slice a1 n1 c1) ∧ w'.cell? ⟨w.heap.size, 5, none⟩ = some (.int .i64 k2) ∧ w'.cell? ⟨w.heap.size, 6, none⟩ = some (.slice a2 n2 c2) ∧ w'.cell? ⟨w.heap.size, 7, none⟩ = some (.int .i64 lb) ∧ w'.cell? ⟨w.heap.size, 8, none⟩ = some (.slice a3 n3 c3))
    ((refine (fun hB => ⟨hB, cell_keep z0 hB, cell_keep z1 hB, cell_keep z2 hB, cell_keep z3 hB, cell_keep z4 hB, cell_keep z5 hB, cell_keep z6 hB, cell_keep z7 hB, cell_keep z8 hB⟩ : Below (w.alloc (Obj.cells #[.int .i64 k, .string nm, .int .i64 num, .int .i64 k1, .slice a1 n1 c1, .int .i64 k2, .slice a2 n2 c2, .int .i64 lb, .slice a3 n3 c3] 34)).heap.size (w.alloc (Obj.cells #[.int .i64 k, .string nm, .int .i64 num, .int .i64 k1, .slice a1 n1 c1, .int .i64 k2, .slice a2 n2 c2, .int .i64 lb, .slice a3 n3 c3] 34)) _ → _) ?_; (first | exact below_drew _ | exact hk2 | exact hk1)))
    (first
      | (go_at_call 50; refine (castTerms_any _).mono ?_; rintro e w1 ⟨rfl, hy1⟩; have hk1 := below_trans (below_drew _) hy1)
      | (go_at_call 51; refine (accepts_any 14 (by decide) 200 40 40 (by omega) (by omega) (by omega) rfl t _ _ _ (HF.out.below (below_trans HB.out hk1)) (HA.out.below (below_trans HB.out hk1))).mono ?_; rintro e w2 ⟨rfl, hy2⟩; have hk2 := below_trans hk1 hy2))
  go_wp2_with fail
  go_ret
  exact ⟨ret_b HE.out, below_trans HB.out hk2⟩
end Go.Proofs.YtjpmlmdbldcbjaaDoor

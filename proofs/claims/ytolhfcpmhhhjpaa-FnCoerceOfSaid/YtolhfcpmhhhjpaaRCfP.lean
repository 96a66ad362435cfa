/- The coercion of a cast, plainly: it leads from the one type to the other, its labels are the cast's, and it is an identity exactly between equal types. -/
import Derived.Test.YtolhfcpmhhhjpaaRG3
import Derived.Test.YtolhfcpmhhhjpaaRG17
import Derived.Test.YtolhfcpmhhhjpaaRCcf
namespace Go.Proofs.Ytolhfcpmhhhjpaa
open Go.RowKit

theorem tag_cst : ∀ (n : Nat) (f t : Ty) (l : Int) (d : Nat), fuelOk n d f t → shp d f = true → shp d t = true → cons f t = true → kindT f = kindT t → kindT f ≠ 1 → tagC (cst n f t l) = kindT f := by
  intro n f t l d hn hf ht hc hk h1
  cases n with
  | zero =>
    exfalso
    cases d with
    | zero => simp [shp] at hf
    | succ d => rcases hn with hn | ⟨hn, _⟩ <;> omega
  | succ n =>
    cases cstK hf ht hc with
    | id k h => rw [cst_id]; rcases h with rfl | rfl | rfl <;> simp [tagC, kindT]
    | inj _ h => exact absurd hk h
    | prj _ h => exact absurd hk.symm h
    | two k f1 f2 t1 t2 h a1 a2 b1 b2 e1 e2 hd1 =>
      rw [cst_two h]
      rcases h with rfl | rfl <;> simp [tagC, kindT]

theorem typ_cst : ∀ (n : Nat) (f t : Ty) (l : Int) (d m : Nat), fuelOk n d f t → shp d f = true → shp d t = true → cons f t = true → n ≤ m → typC m (cst n f t l) f t = true := by
  intro n
  induction n with
  | zero =>
    intro f t l d m hn hf ht
    exfalso
    cases d with
    | zero => simp [shp] at hf
    | succ d => rcases hn with hn | ⟨hn, _⟩ <;> omega
  | succ n ih =>
    intro f t l d m hn hf ht hc hm
    obtain ⟨m, rfl⟩ : ∃ m', m = m' + 1 := ⟨m - 1, by omega⟩
    cases cstK hf ht hc with
    | id k h =>
      rw [cst_id]
      simp [typC, kindT]
    | inj _ h =>
      rw [cst_inj h]
      have hn2 : 2 * d ≤ n + 1 := by
        rcases hn with hn | ⟨_, hk⟩
        · exact hn
        · exact absurd hk h
      have h1 := ih f (gk (kindT f)) l d m (.inr ⟨hn2, (kindT_gk _).symm⟩) hf (shp_gk hf) (cons_gk (shp_wf hf)).1 (by omega)
      have h2 := tag_cst n f (gk (kindT f)) l d (.inr ⟨hn2, (kindT_gk _).symm⟩) hf (shp_gk hf) (cons_gk (shp_wf hf)).1 (kindT_gk _).symm h
      have e1 : kindT (Ty.mk 1 []) = 1 := rfl
      simp [typC, h1, h2, e1]
    | prj _ h =>
      rw [cst_prj h]
      have hn2 : 2 * d ≤ n + 1 := by
        rcases hn with hn | ⟨_, hk⟩
        · exact hn
        · exact absurd hk.symm h
      have h1 := ih (gk (kindT t)) t l d m (.inr ⟨hn2, kindT_gk _⟩) (shp_gk ht) ht (cons_gk (shp_wf ht)).2 (by omega)
      have h2 := tag_cst n (gk (kindT t)) t l d (.inr ⟨hn2, kindT_gk _⟩) (shp_gk ht) ht (cons_gk (shp_wf ht)).2 (kindT_gk _) (by rw [kindT_gk]; exact h)
      rw [kindT_gk] at h2
      have e1 : kindT (Ty.mk 1 []) = 1 := rfl
      simp [typC, h1, h2, e1]
    | two k f1 f2 t1 t2 h a1 a2 b1 b2 e1 e2 hd1 =>
      have h2 : 2 * (d - 1) ≤ n := by rcases hn with hn | ⟨hn, _⟩ <;> omega
      rw [cst_two h]
      have g2 := ih f2 t2 l (d - 1) m (.inl h2) a2 b2 e2 (by omega)
      rcases h with rfl | rfl
      · have g1 := ih t1 f1 (-l) (d - 1) m (.inl h2) b1 a1 (cons_symm2 e1) (by omega)
        simp [typC, kidsT', kindT, g1, g2]
      · have g1 := ih f1 t1 l (d - 1) m (.inl h2) a1 b1 e1 (by omega)
        simp [typC, kidsT', kindT, g1, g2]

theorem id_cst : ∀ (n : Nat) (f t : Ty) (l : Int) (d : Nat), fuelOk n d f t → shp d f = true → shp d t = true → cons f t = true → idC (cst n f t l) = tyEq f t := by
  intro n
  induction n with
  | zero =>
    intro f t l d hn hf ht
    exfalso
    cases d with
    | zero => simp [shp] at hf
    | succ d => rcases hn with hn | ⟨hn, _⟩ <;> omega
  | succ n ih =>
    intro f t l d hn hf ht hc
    cases cstK hf ht hc with
    | id k h =>
      rw [cst_id, tyEq_refl]
      simp [idC, idL]
    | inj _ h =>
      rw [cst_inj h]
      obtain ⟨k, ts, rfl⟩ := f.shape
      have hk : (k == 1) = false := by simpa [kindT] using h
      simp [idC, tyEq, hk]
    | prj _ h =>
      rw [cst_prj h]
      obtain ⟨k, ts, rfl⟩ := t.shape
      have hk : (1 == k) = false := by
        have : ¬ k = 1 := by simpa [kindT] using h
        simp only [beq_eq_false_iff_ne, ne_eq]
        omega
      simp [idC, tyEq, hk]
    | two k f1 f2 t1 t2 h a1 a2 b1 b2 e1 e2 hd1 =>
      have h2 : 2 * (d - 1) ≤ n := by rcases hn with hn | ⟨hn, _⟩ <;> omega
      rw [cst_two h]
      have g2 := ih f2 t2 l (d - 1) (.inl h2) a2 b2 e2
      rcases h with rfl | rfl
      · have g1 := ih t1 f1 (-l) (d - 1) (.inl h2) b1 a1 (cons_symm2 e1)
        rw [tyEq_comm] at g1
        simp [idC, idL, g1, g2, tyEq, tyEqL]
      · have g1 := ih f1 t1 l (d - 1) (.inl h2) a1 b1 e1
        simp [idC, idL, g1, g2, tyEq, tyEqL]

mutual
/-- Each label that is not zero is one of these. -/
def labP (P : Int → Prop) : Co → Prop
  | .mk _ _ l ts => (l = 0 ∨ P l) ∧ labPL P ts
def labPL (P : Int → Prop) : List Co → Prop
  | [] => True
  | t :: ts => labP P t ∧ labPL P ts
end

theorem insB_memF (n x : Int) : ∀ (l : List Int), x ∈ insB n l → x = n ∨ x ∈ l
  | [], h => by simpa [insB] using h
  | y :: l, h => by
    simp only [insB] at h
    split at h
    · simpa using h
    · rcases List.mem_cons.1 h with h | h
      · exact .inr (by simp [h])
      · rcases insB_memF n x l h with h | h
        · exact .inl h
        · exact .inr (by simp [h])
mutual
theorem lab_mem {P : Int → Prop} : ∀ (t : Co) (zs : List Int), labP P t → ∀ x ∈ ccN scStep zs t, x ∈ zs ∨ P x
  | .mk k g l ts, zs, h, x, hx => by
    simp only [labP] at h
    simp only [ccN] at hx
    rcases labL_mem ts _ h.2 x hx with h1 | h1
    · simp only [scStep] at h1
      split at h1
      · exact .inl h1
      · unfold srtI at h1
        split at h1
        · exact .inl h1
        · rcases insB_memF _ _ _ h1 with h2 | h2
          · rcases h.1 with h3 | h3
            · rename_i hl _
              exact absurd h3 hl
            · exact .inr (h2 ▸ h3)
          · exact .inl h2
    · exact .inr h1
theorem labL_mem {P : Int → Prop} : ∀ (ts : List Co) (zs : List Int), labPL P ts → ∀ x ∈ ccL scStep zs ts, x ∈ zs ∨ P x
  | [], zs, _, x, hx => by
    simp only [ccL] at hx
    exact .inl hx
  | t :: ts, zs, h, x, hx => by
    simp only [labPL] at h
    simp only [ccL] at hx
    rcases labL_mem ts _ h.2 x hx with h1 | h1
    · exact lab_mem t zs h.1 x h1
    · exact .inr h1
end

theorem lab_cst (P : Int → Prop) (hP : ∀ l, P l → P (-l)) : ∀ (n : Nat) (f t : Ty) (l : Int), P l → labP P (cst n f t l) := by
  intro n
  induction n with
  | zero => intro f t l _; simp [cst, labP, labPL]
  | succ n ih =>
    intro f t l hl
    unfold cst
    split
    · simp [labP, labPL]
    split
    · simp only [labP, labPL, and_true]
      exact ⟨.inl (by trivial), ih _ _ _ hl⟩
    split
    · simp only [labP, labPL, and_true]
      exact ⟨.inr hl, ih _ _ _ hl⟩
    split
    · split
      · simp only [labP, labPL, and_true]
        exact ⟨.inl (by trivial), ih _ _ _ (hP _ hl), ih _ _ _ hl⟩
      · simp only [labP, labPL, and_true]
        exact ⟨.inl (by trivial), ih _ _ _ hl, ih _ _ _ hl⟩
    · simp [labP, labPL]

theorem cstOk_parts {f t : Ty} {l : Int} (h : cstOk f t l = true) : shp 4 f = true ∧ shp 4 t = true ∧ cons f t = true ∧ isLb l = true := by
  simp only [cstOk, consOf, Bool.and_eq_true] at h
  exact ⟨h.1.1.1, h.1.1.2, h.1.2, h.2⟩

theorem vld_cst {f t : Ty} {l : Int} (h : cstOk f t l = true) : vldK (cstOf f t l) = true := by
  obtain ⟨h1, h2, h3, h4⟩ := cstOk_parts h
  rw [cstOf, if_pos h]
  exact shpK_up (by omega) (shpK_cst 8 f t l 4 (.inl (by omega)) h1 h2 h3 h4).1
theorem ctyp_cst {f t : Ty} {l : Int} (h : cstOk f t l = true) : ctyp (cstOf f t l) f t = true := by
  obtain ⟨h1, h2, h3, h4⟩ := cstOk_parts h
  have hv := vld_cst h
  simp only [ctyp, hv, Bool.true_and, Bool.and_eq_true]
  refine ⟨h1, h2, ?_⟩
  rw [cstOf, if_pos h]
  exact typ_cst 8 f t l 4 9 (.inl (by omega)) h1 h2 h3 (by omega)
theorem idV_cst {f t : Ty} {l : Int} (h : cstOk f t l = true) : idV (cstOf f t l) = tyEq f t := by
  obtain ⟨h1, h2, h3, h4⟩ := cstOk_parts h
  rw [idV, vld_cst h, Bool.true_and, cstOf, if_pos h]
  exact id_cst 8 f t l 4 (.inl (by omega)) h1 h2 h3
theorem lcLst_cst {f t : Ty} {l : Int} (h : cstOk f t l = true) : ∀ x ∈ lcLst (cstOf f t l), x = l ∨ x = -l := by
  intro x hx
  rw [lcLst, if_pos (vld_cst h), cstOf, if_pos h] at hx
  rcases lab_mem (P := fun x => x = l ∨ x = -l) _ [] (lab_cst _ (fun y h => by omega) 8 f t l (.inl rfl)) x hx with h | h
  · cases h
  · exact h
end Go.Proofs.Ytolhfcpmhhhjpaa

/- The coercion of a cast is valid but for its depth; its size. -/
import Derived.Test.YtgekfnodmgkdaaaDoorCk
namespace Go.Proofs.YtgekfnodmgkdaaaDoor
open Go.RowKit

theorem isLb_rng {l : Int} (h : isLb l = true) : -99 ≤ l ∧ l ≤ 99 := by
  simp only [isLb, Bool.and_eq_true, decide_eq_true_eq] at h
  exact ⟨h.1.2, h.2⟩


theorem cst_cnt : ∀ (n : Nat) (f t : Ty) (l : Int), (cst n f t l).cnt + 2 ≤ 2 ^ (n + 1)
  | 0, _, _, _ => by simp [cst, Co.cnt, ccntL]
  | n + 1, f, t, l => by
    have hp : 0 < 2 ^ n := Nat.pow_pos (by omega)
    have h1 := fun f t l => cst_cnt n f t l
    simp only [cst]
    simp only [Nat.pow_succ] at *
    split
    · simp only [Co.cnt, ccntL, List.length_nil]; omega
    · split
      · have := h1 f (gk (kindT f)) l
        simp only [Co.cnt, ccntL, List.length_cons, List.length_nil]; omega
      · split
        · have := h1 (gk (kindT t)) t l
          simp only [Co.cnt, ccntL, List.length_cons, List.length_nil]; omega
        · split
          · rename_i f1 f2 t1 t2 _ _
            have a1 := h1 t1 f1 (-l)
            have a2 := h1 f2 t2 l
            have a3 := h1 f1 t1 l
            split <;> (simp only [Co.cnt, ccntL, List.length_cons, List.length_nil]; omega)
          · simp only [Co.cnt, ccntL, List.length_nil]; omega


theorem isLb_neg {l : Int} (h : isLb l = true) : isLb (-l) = true := by
  simp only [isLb, Bool.and_eq_true, decide_eq_true_eq, bne_iff_ne, ne_eq] at *
  omega

theorem plain_notUnk {c : Co} (h : plainC c = true) : unkC c = false := by
  obtain ⟨k, g, l, ts, rfl⟩ := c.shape
  simp only [plainC, unkC, Bool.or_eq_true, Bool.and_eq_true, beq_iff_eq, bne_iff_ne, ne_eq] at *
  rw [Bool.eq_false_iff]
  intro h2
  simp only [Bool.or_eq_true, Bool.and_eq_true, beq_iff_eq] at h2
  omega

theorem kindT_gk (k : Int) : kindT (gk k) = k := rfl

/-- The coercion of a cast, at every level. -/
theorem shpK_cst : ∀ (n : Nat) (f t : Ty) (l : Int) (d : Nat), fuelOk n d f t → shp d f = true → shp d t = true → cons f t = true → isLb l = true → shpK n (cst n f t l) = true ∧ (kindT f = kindT t → kindT f ≠ 1 → plainC (cst n f t l) = true) := by
  intro n
  induction n with
  | zero =>
    intro f t l d hn hf ht
    exfalso
    cases d with
    | zero => simp [shp] at hf
    | succ d => rcases hn with hn | ⟨hn, _⟩ <;> omega
  | succ n ih =>
    intro f t l d hn hf ht hc hl
    cases cstK hf ht hc with
    | id k h =>
      rw [cst_id]
      refine ⟨?_, fun _ h1 => ?_⟩
      · rcases h with rfl | rfl | rfl <;> rfl
      · rcases h with rfl | rfl | rfl
        · exact absurd rfl h1
        · rfl
        · rfl
    | inj _ h =>
      rw [cst_inj h]
      have hn2 : 2 * d ≤ n + 1 := by
        rcases hn with hn | ⟨_, hk⟩
        · exact hn
        · exact absurd hk h
      obtain ⟨h1, h2⟩ := ih f (gk (kindT f)) l d (.inr ⟨hn2, (kindT_gk _).symm⟩) hf (shp_gk hf) (cons_gk (shp_wf hf)).1 hl
      refine ⟨?_, fun e => absurd e h⟩
      have h3 := h2 (kindT_gk _).symm h
      simp [shpK, nodeC, h1, h3]
    | prj _ h =>
      rw [cst_prj h]
      have hn2 : 2 * d ≤ n + 1 := by
        rcases hn with hn | ⟨_, hk⟩
        · exact hn
        · exact absurd hk.symm h
      obtain ⟨h1, h2⟩ := ih (gk (kindT t)) t l d (.inr ⟨hn2, kindT_gk _⟩) (shp_gk ht) ht (cons_gk (shp_wf ht)).2 hl
      refine ⟨?_, fun e h0 => absurd rfl h0⟩
      have h3 := plain_notUnk (h2 (kindT_gk _) (by rw [kindT_gk _]; exact h))
      simp [shpK, nodeC, h1, h3, hl]
    | two k f1 f2 t1 t2 h a1 a2 b1 b2 e1 e2 hd1 =>
      have h2 : 2 * (d - 1) ≤ n := by rcases hn with hn | ⟨hn, _⟩ <;> omega
      rw [cst_two h]
      have g2 := (ih f2 t2 l (d - 1) (.inl h2) a2 b2 e2 hl).1
      rcases h with rfl | rfl
      · have g1 := (ih t1 f1 (-l) (d - 1) (.inl h2) b1 a1 (cons_symm2 e1) (isLb_neg hl)).1
        simp [shpK, nodeC, g1, g2, plainC]
      · have g1 := (ih f1 t1 l (d - 1) (.inl h2) a1 b1 e1 hl).1
        simp [shpK, nodeC, g1, g2, plainC]
end Go.Proofs.YtgekfnodmgkdaaaDoor

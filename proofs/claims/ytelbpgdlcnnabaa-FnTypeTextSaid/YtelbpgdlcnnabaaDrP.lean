/- Precision, consistency and the relations of chapter 8: the laws of order, plainly. -/
import Derived.Test.YtelbpgdlcnnabaaBl0
namespace Go.Proofs.Ytelbpgdlcnnabaa
open Go.RowKit

/-- The ways in which two well-formed types can stand to each other. -/
theorem rel_cases {d : Nat} {a b : Ty} (ha : shp (d + 1) a = true) (hb : shp (d + 1) b = true) : kindT a = 1 ∨ kindT b = 1 ∨ (kindT a ≠ 1 ∧ kindT b ≠ 1 ∧ kindT a ≠ kindT b) ∨ (kindT a ≠ 1 ∧ kindT b ≠ 1 ∧ SameK d a b) := by
  by_cases h1 : kindT a = 1
  · exact .inl h1
  by_cases h2 : kindT b = 1
  · exact .inr (.inl h2)
  by_cases h3 : kindT a = kindT b
  · exact .inr (.inr (.inr ⟨h1, h2, sameK_of ha hb h1 h3⟩))
  · exact .inr (.inr (.inl ⟨h1, h2, h3⟩))

theorem kindT_mk (k : Int) (ts : List Ty) : kindT (.mk k ts) = k := rfl
theorem kids_mk (k : Int) (ts : List Ty) : kidsT8 (.mk k ts) = ts := rfl

theorem prec_any {a b : Ty} (h : kindT b = 1) : prec a b = true := by
  obtain ⟨k, ts, rfl⟩ := a.shape
  obtain ⟨k', us, rfl⟩ := b.shape
  simp [prec, show k' = 1 from h]
theorem prec_diff {a b : Ty} (h : kindT b ≠ 1) (he : kindT a ≠ kindT b) : prec a b = false := by
  obtain ⟨k, ts, rfl⟩ := a.shape
  obtain ⟨k', us, rfl⟩ := b.shape
  have h1 : ¬ k' = 1 := h
  have h2 : ¬ k = k' := he
  simp [prec, h1, h2]
theorem prec_two {k : Int} {x y x' y' : Ty} (hk : k = 4 ∨ k = 5) : prec (.mk k [x, y]) (.mk k [x', y']) = (prec x x' && prec y y') := by
  have : ¬ k = 1 := by omega
  simp [prec, precL, this]
theorem prec_leaf {k : Int} : prec (.mk k []) (.mk k []) = true := by
  by_cases h : k = 1 <;> simp [prec, precL, h]
theorem cons_any {a b : Ty} (h : kindT a = 1 ∨ kindT b = 1) : cons a b = true := by
  obtain ⟨k, ts, rfl⟩ := a.shape
  obtain ⟨k', us, rfl⟩ := b.shape
  have : k = 1 ∨ k' = 1 := h
  simp [cons, this]
theorem cons_diff {a b : Ty} (h1 : kindT a ≠ 1) (h2 : kindT b ≠ 1) (he : kindT a ≠ kindT b) : cons a b = false := by
  obtain ⟨k, ts, rfl⟩ := a.shape
  obtain ⟨k', us, rfl⟩ := b.shape
  have g1 : ¬ k = 1 := h1
  have g2 : ¬ k' = 1 := h2
  have g3 : ¬ k = k' := he
  simp [cons, g1, g2, g3]
theorem cons_two {k : Int} {x y x' y' : Ty} (hk : k = 4 ∨ k = 5) : cons (.mk k [x, y]) (.mk k [x', y']) = (cons x x' && cons y y') := by
  have : ¬ k = 1 := by omega
  simp [cons, consL, this]
theorem cons_leaf {k : Int} : cons (.mk k []) (.mk k []) = true := by
  by_cases h : k = 1 <;> simp [cons, consL, h]

/-- What is more precise has the same kind, or the other one is unknown. -/
theorem prec_kind {a b : Ty} (h : prec a b = true) : kindT b = 1 ∨ kindT a = kindT b := by
  by_cases h1 : kindT b = 1
  · exact .inl h1
  by_cases h2 : kindT a = kindT b
  · exact .inr h2
  · rw [prec_diff h1 h2] at h; cases h

theorem sub_kind {d : Nat} {a b : Ty} (h : sub (d + 1) 0 a b = true) : (kindT b = 1) ∨ (kindT a ≠ 1 ∧ kindT a = kindT b) := by
  by_cases h1 : kindT b = 1
  · exact .inl h1
  by_cases ha : kindT a = 1
  · rw [sub_any1 _ _ _ _ ha] at h
    simp [h1] at h
  by_cases h2 : kindT a = kindT b
  · exact .inr ⟨ha, h2⟩
  · rw [sub_diff _ _ _ _ ha h1 h2] at h; cases h

theorem gk_kids2 {k : Int} (h : k = 4 ∨ k = 5) : kidsT8 (gk k) = [.mk 1 [], .mk 1 []] := by
  unfold gk
  rw [if_pos h]
  rfl

theorem subS_two (f : Int → Ty → Ty → Bool) (p k : Int) (x y x' y' : Ty) : subS f p k [x, y] [x', y'] = if k = 4 then f (-p) x' x && f p y y' else f p x x' && f p y y' := rfl

theorem shp_any8 {d : Nat} {t : Ty} (h : shp d t = true) : shp d (.mk 1 []) = true := by
  obtain ⟨e, rfl⟩ := shp_pos h
  exact shp_leaf8 (.inl rfl)

/-- Subtyping is transitive. -/
theorem sub_trans : ∀ (d : Nat) (a b c : Ty), shp d a = true → shp d b = true → shp d c = true → sub d 0 a b = true → sub d 0 b c = true → sub d 0 a c = true
  | 0, a, _, _, ha, _, _, _, _ => by simp [shp] at ha
  | d + 1, a, b, c, ha, hb, hc, h1, h2 => by
    have ih := sub_trans d
    by_cases hb1 : kindT b = 1
    · -- c is unknown, too
      have hc1 : kindT c = 1 := by
        rw [sub_any1 _ _ _ _ hb1] at h2
        simpa using h2
      by_cases ha1 : kindT a = 1
      · rw [sub_any1 _ _ _ _ ha1]; simp [hc1]
      · rw [sub_any2 _ _ _ _ ha1 hc1]
        rw [sub_any2 _ _ _ _ ha1 hb1] at h1
        exact h1
    rcases sub_kind h1 with h | ⟨ha1, hab⟩
    · exact absurd h hb1
    have hs := sameK_of ha hb ha1 hab
    rw [sub_same _ _ _ _ ha1 hb1 hab] at h1
    by_cases hc1 : kindT c = 1
    · rw [sub_any2 _ _ _ _ ha1 hc1]
      rw [sub_any2 _ _ _ _ hb1 hc1] at h2
      cases hs with
      | leaf k hk => simp only [kidsT8, subS, Bool.or_true]
      | two k x y x' y' hk hx hy hx' hy' =>
        have ha0 := shp_any8 hx
        simp only [kindT_mk, kids_mk, gk_kids2 hk, subS_two, Int.neg_zero, Bool.or_eq_true] at h1 h2 ⊢
        simp only [show ((0 : Int) == 1) = false from rfl, Bool.false_eq_true, false_or] at h2 ⊢
        rcases hk with rfl | rfl
        · simp only [if_true, Bool.and_eq_true] at h1 h2 ⊢
          exact ⟨ih _ _ _ ha0 hx' hx h2.1 h1.1, ih _ _ _ hy hy' ha0 h1.2 h2.2⟩
        · simp only [show ¬ ((5 : Int) = 4) by decide, if_false, Bool.and_eq_true] at h1 h2 ⊢
          exact ⟨ih _ _ _ hx hx' ha0 h1.1 h2.1, ih _ _ _ hy hy' ha0 h1.2 h2.2⟩
    · rcases sub_kind h2 with h | ⟨_, hbc⟩
      · exact absurd h hc1
      have hs2 := sameK_of hb hc hb1 hbc
      rw [sub_same _ _ _ _ hb1 hc1 hbc] at h2
      rw [sub_same _ _ _ _ ha1 hc1 (hab.trans hbc)]
      cases hs with
      | leaf k hk => cases hs2 with
        | leaf k' hk' => simp only [kidsT8, subS]
      | two k x y x' y' hk hx hy hx' hy' => cases hs2 with
        | two k' x2 y2 x3 y3 hk' _ _ hx3 hy3 =>
          simp only [kindT_mk, kids_mk, subS_two, Int.neg_zero] at h1 h2 ⊢
          rcases hk with rfl | rfl
          · simp only [if_true, Bool.and_eq_true] at h1 h2 ⊢
            exact ⟨ih _ _ _ hx3 hx' hx h2.1 h1.1, ih _ _ _ hy hy' hy3 h1.2 h2.2⟩
          · simp only [show ¬ ((5 : Int) = 4) by decide, if_false, Bool.and_eq_true] at h1 h2 ⊢
            exact ⟨ih _ _ _ hx hx' hx3 h1.1 h2.1, ih _ _ _ hy hy' hy3 h1.2 h2.2⟩

/-- Consistency does not look at the order. -/
theorem cons_comm8 : ∀ (d : Nat) (a b : Ty), shp d a = true → shp d b = true → cons a b = true → cons b a = true
  | 0, a, _, ha, _, _ => by simp [shp] at ha
  | d + 1, a, b, ha, hb, h => by
    rcases rel_cases ha hb with h1 | h1 | ⟨h1, h2, h3⟩ | ⟨h1, h2, hs⟩
    · exact cons_any (.inr h1)
    · exact cons_any (.inl h1)
    · rw [cons_diff h1 h2 h3] at h; cases h
    · cases hs with
      | leaf k hk => exact cons_leaf
      | two k x y x' y' hk hx hy hx' hy' =>
        rw [cons_two hk, Bool.and_eq_true] at h ⊢
        exact ⟨cons_comm8 d _ _ hx hx' h.1, cons_comm8 d _ _ hy hy' h.2⟩

/-- A subtype is consistent with its supertype. -/
theorem sub_cons : ∀ (d : Nat) (a b : Ty), shp d a = true → shp d b = true → sub d 0 a b = true → cons a b = true
  | 0, a, _, ha, _, _ => by simp [shp] at ha
  | d + 1, a, b, ha, hb, h => by
    rcases rel_cases ha hb with h1 | h1 | ⟨h1, h2, h3⟩ | ⟨h1, h2, hs⟩
    · exact cons_any (.inl h1)
    · exact cons_any (.inr h1)
    · rw [sub_diff _ _ _ _ h1 h2 h3] at h; cases h
    · cases hs with
      | leaf k hk => exact cons_leaf
      | two k x y x' y' hk hx hy hx' hy' =>
        rw [sub_same _ _ _ _ h1 h2 rfl] at h
        simp only [kindT_mk, kids_mk, subS_two, Int.neg_zero] at h
        rw [cons_two hk, Bool.and_eq_true]
        rcases hk with rfl | rfl
        · simp only [if_true, Bool.and_eq_true] at h
          exact ⟨cons_comm8 d _ _ hx' hx (sub_cons d _ _ hx' hx h.1), sub_cons d _ _ hy hy' h.2⟩
        · simp only [show ¬ ((5 : Int) = 4) by decide, if_false, Bool.and_eq_true] at h
          exact ⟨sub_cons d _ _ hx hx' h.1, sub_cons d _ _ hy hy' h.2⟩

/-- Precision factors. -/
theorem prec_sub : ∀ (d : Nat) (a b : Ty), shp d a = true → shp d b = true → prec a b = (sub d 1 a b && sub d (-1) b a)
  | 0, a, _, ha, _ => by simp [shp] at ha
  | d + 1, a, b, ha, hb => by
    by_cases hb1 : kindT b = 1
    · rw [prec_any hb1, sub_any1 _ _ b a hb1]
      by_cases ha1 : kindT a = 1
      · rw [sub_any1 _ _ _ _ ha1]; simp [hb1]
      · rw [sub_any2 _ _ _ _ ha1 hb1]; simp
    rcases rel_cases ha hb with h1 | h1 | ⟨h1, h2, h3⟩ | ⟨h1, h2, hs⟩
    · rw [prec_diff hb1 (by rw [h1]; exact fun e => hb1 e.symm), sub_any1 _ _ _ _ h1]
      simp [hb1]
    · exact absurd h1 hb1
    · rw [prec_diff h2 h3, sub_diff _ _ _ _ h1 h2 h3]; rfl
    · cases hs with
      | leaf k hk =>
        rw [prec_leaf, sub_same _ _ _ _ h1 h2 rfl, sub_same _ _ _ _ h1 h2 rfl]
        simp only [kidsT8, subS]
        rfl
      | two k x y x' y' hk hx hy hx' hy' =>
        rw [prec_two hk, sub_same _ _ _ _ h1 h2 rfl, sub_same _ _ _ _ h2 h1 rfl]
        simp only [kindT_mk, kids_mk, subS_two, Int.neg_neg]
        rw [prec_sub d x x' hx hx', prec_sub d y y' hy hy']
        rcases hk with rfl | rfl
        · simp only [if_true]
          generalize sub d 1 x x' = p1
          generalize sub d (-1) x' x = p2
          generalize sub d 1 y y' = p3
          generalize sub d (-1) y' y = p4
          cases p1 <;> cases p2 <;> cases p3 <;> cases p4 <;> rfl
        · simp only [show ¬ ((5 : Int) = 4) by decide, if_false]
          generalize sub d 1 x x' = p1
          generalize sub d (-1) x' x = p2
          generalize sub d 1 y y' = p3
          generalize sub d (-1) y' y = p4
          cases p1 <;> cases p2 <;> cases p3 <;> cases p4 <;> rfl

theorem prec_cons : ∀ (d : Nat) (a b : Ty), shp d a = true → shp d b = true → prec a b = true → cons a b = true
  | 0, a, _, ha, _, _ => by simp [shp] at ha
  | d + 1, a, b, ha, hb, h => by
    rcases rel_cases ha hb with h1 | h1 | ⟨h1, h2, h3⟩ | ⟨h1, h2, hs⟩
    · exact cons_any (.inl h1)
    · exact cons_any (.inr h1)
    · rw [prec_diff h2 h3] at h; cases h
    · cases hs with
      | leaf k hk => exact cons_leaf
      | two k x y x' y' hk hx hy hx' hy' =>
        rw [prec_two hk, Bool.and_eq_true] at h
        rw [cons_two hk, Bool.and_eq_true]
        exact ⟨prec_cons d _ _ hx hx' h.1, prec_cons d _ _ hy hy' h.2⟩

theorem prec_trans : ∀ (d : Nat) (a b c : Ty), shp d a = true → shp d b = true → shp d c = true → prec a b = true → prec b c = true → prec a c = true
  | 0, a, _, _, ha, _, _, _, _ => by simp [shp] at ha
  | d + 1, a, b, c, ha, hb, hc, h1, h2 => by
    by_cases hc1 : kindT c = 1
    · exact prec_any hc1
    rcases prec_kind h2 with h | hbc
    · exact absurd h hc1
    have hb1 : kindT b ≠ 1 := by rw [hbc]; exact hc1
    rcases prec_kind h1 with h | hab
    · exact absurd h hb1
    have ha1 : kindT a ≠ 1 := by rw [hab]; exact hb1
    have hs := sameK_of ha hb ha1 hab
    have hs2 := sameK_of hb hc hb1 hbc
    cases hs with
    | leaf k hk => cases hs2 with
      | leaf k' hk' => exact prec_leaf
    | two k x y x' y' hk hx hy hx' hy' => cases hs2 with
      | two k' x2 y2 x3 y3 hk' _ _ hx3 hy3 =>
        rw [prec_two hk, Bool.and_eq_true] at h1 h2 ⊢
        exact ⟨prec_trans d _ _ _ hx hx' hx3 h1.1 h2.1, prec_trans d _ _ _ hy hy' hy3 h1.2 h2.2⟩

/-- Less precise types than consistent ones are consistent. -/
theorem cons_mono : ∀ (d : Nat) (a b x : Ty), shp d a = true → shp d b = true → shp d x = true → prec a b = true → cons a x = true → cons b x = true
  | 0, a, _, _, ha, _, _, _, _ => by simp [shp] at ha
  | d + 1, a, b, x, ha, hb, hx, h1, h2 => by
    by_cases hb1 : kindT b = 1
    · exact cons_any (.inl hb1)
    by_cases hx1 : kindT x = 1
    · exact cons_any (.inr hx1)
    rcases prec_kind h1 with h | hab
    · exact absurd h hb1
    have ha1 : kindT a ≠ 1 := by rw [hab]; exact hb1
    by_cases hax : kindT a = kindT x
    · have hs := sameK_of ha hb ha1 hab
      have hs2 := sameK_of ha hx ha1 hax
      cases hs with
      | leaf k hk => cases hs2 with
        | leaf k' hk' => exact cons_leaf
      | two k y z y' z' hk hy hz hy' hz' => cases hs2 with
        | two k' x2 y2 x3 y3 hk' _ _ hx3 hy3 =>
          rw [prec_two hk, Bool.and_eq_true] at h1
          rw [cons_two hk, Bool.and_eq_true] at h2 ⊢
          exact ⟨cons_mono d _ _ _ hy hy' hx3 h1.1 h2.1, cons_mono d _ _ _ hz hz' hy3 h1.2 h2.2⟩
    · rw [cons_diff ha1 hx1 hax] at h2; cases h2

end Go.Proofs.Ytelbpgdlcnnabaa

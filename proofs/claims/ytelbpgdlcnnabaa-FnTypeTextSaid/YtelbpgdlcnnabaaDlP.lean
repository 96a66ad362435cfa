/- The order of types, plainly: what the drawn laws on meets, joins, ground types, static types and the relations of chapter 8 want. -/
import Derived.Test.YtelbpgdlcnnabaaMjP
import Derived.Test.YtelbpgdlcnnabaaMsP
import Derived.Test.YtelbpgdlcnnabaaDpP
import Derived.Test.YtelbpgdlcnnabaaDrP
namespace Go.Proofs.Ytelbpgdlcnnabaa
open Go.RowKit

/-- Neither label is blamed if and only if each of them is not. -/
theorem sub_factor : ∀ (d : Nat) (a b : Ty), shp d a = true → shp d b = true → sub d 0 a b = (sub d 1 a b && sub d (-1) a b)
  | 0, a, _, ha, _ => by simp [shp] at ha
  | d + 1, a, b, ha, hb => by
    by_cases ha1 : kindT a = 1
    · rw [sub_any1 _ _ _ _ ha1, sub_any1 _ _ _ _ ha1, sub_any1 _ _ _ _ ha1]
      simp
    by_cases hb1 : kindT b = 1
    · rw [sub_any2 _ _ _ _ ha1 hb1, sub_any2 _ _ _ _ ha1 hb1, sub_any2 _ _ _ _ ha1 hb1]
      obtain ⟨k, ts, rfl⟩ := a.shape
      rcases shp_cases ha with ⟨rfl, hk⟩ | ⟨x, y, rfl, hk, hx, hy⟩
      · simp only [kidsT8, subS]
        rfl
      · obtain ⟨e, rfl⟩ := shp_pos hx
        have hau := shp_any8 hx
        simp only [kindT_mk, kids_mk, gk_kids2 hk, subS_two, Int.neg_neg, Int.neg_zero]
        rw [sub_factor (e + 1) (.mk 1 []) x hau hx, sub_factor (e + 1) y (.mk 1 []) hy hau, sub_factor (e + 1) x (.mk 1 []) hx hau]
        have f1 : sub (e + 1) (-1) (.mk 1 []) x = true := by rw [sub_any1 _ _ _ _ rfl]; simp
        have f2 : ∀ z : Ty, sub (e + 1) 1 z (.mk 1 []) = true := fun z => by
          by_cases hz : kindT z = 1
          · rw [sub_any1 _ _ _ _ hz]; rfl
          · rw [sub_any2 _ _ _ _ hz rfl]; rfl
        rw [f1, f2 x, f2 y]
        rcases hk with rfl | rfl
        · simp only [if_true]
          generalize sub (e + 1) 1 (.mk 1 []) x = p1
          generalize sub (e + 1) (-1) y (.mk 1 []) = p2
          cases p1 <;> cases p2 <;> rfl
        · simp only [show ¬ ((5 : Int) = 4) by decide, if_false]
          generalize sub (e + 1) (-1) x (.mk 1 []) = p1
          generalize sub (e + 1) (-1) y (.mk 1 []) = p2
          cases p1 <;> cases p2 <;> rfl
    by_cases hab : kindT a = kindT b
    · cases sameK_of ha hb ha1 hab with
      | leaf k hk =>
        rw [sub_same _ _ _ _ ha1 hb1 rfl, sub_same _ _ _ _ ha1 hb1 rfl, sub_same _ _ _ _ ha1 hb1 rfl]
        simp only [kidsT8, subS]
        rfl
      | two k x y x' y' hk hx hy hx' hy' =>
        rw [sub_same _ _ _ _ ha1 hb1 rfl, sub_same _ _ _ _ ha1 hb1 rfl, sub_same _ _ _ _ ha1 hb1 rfl]
        simp only [kindT_mk, kids_mk, subS_two, Int.neg_neg, Int.neg_zero]
        rw [sub_factor d x x' hx hx', sub_factor d x' x hx' hx, sub_factor d y y' hy hy']
        rcases hk with rfl | rfl
        · simp only [if_true]
          generalize sub d 1 x' x = p1
          generalize sub d (-1) x' x = p2
          generalize sub d 1 y y' = p3
          generalize sub d (-1) y y' = p4
          cases p1 <;> cases p2 <;> cases p3 <;> cases p4 <;> rfl
        · simp only [show ¬ ((5 : Int) = 4) by decide, if_false]
          generalize sub d 1 x x' = p1
          generalize sub d (-1) x x' = p2
          generalize sub d 1 y y' = p3
          generalize sub d (-1) y y' = p4
          cases p1 <;> cases p2 <;> cases p3 <;> cases p4 <;> rfl
    · rw [sub_diff _ _ _ _ ha1 hb1 hab, sub_diff _ _ _ _ ha1 hb1 hab, sub_diff _ _ _ _ ha1 hb1 hab]
      rfl

theorem sub_self : ∀ (d : Nat) (a : Ty), shp d a = true → sub d 0 a a = true
  | 0, a, ha => by simp [shp] at ha
  | d + 1, a, ha => by
    by_cases ha1 : kindT a = 1
    · rw [sub_any1 _ _ _ _ ha1, ha1]; rfl
    · cases sameK_of ha ha ha1 rfl with
      | leaf k hk =>
        rw [sub_same _ _ _ _ ha1 ha1 rfl]
        simp only [kidsT8, subS]
      | two k x y x' y' hk hx hy hx' hy' =>
        rw [sub_same _ _ _ _ ha1 ha1 rfl]
        simp only [kindT_mk, kids_mk, subS_two, Int.neg_zero]
        rw [sub_self d x hx, sub_self d y hy]
        simp

theorem subOf_factor (a b : Ty) : subOf 0 a b = (subOf 1 a b && subOf (-1) a b) := by
  unfold subOf
  cases ha : vld a with
  | false => rfl
  | true => cases hb : vld b with
    | false => rfl
    | true => simp only [Bool.true_and]; exact sub_factor 4 a b ha hb

theorem subOf_self (a : Ty) : subOf 0 a a = vld a := by
  unfold subOf
  cases ha : vld a with
  | false => rfl
  | true => simp only [Bool.true_and]; exact sub_self 4 a ha

mutual
theorem tyEq_eq : ∀ (t u : Ty), tyEq t u = true → t = u
  | .mk k ts, .mk k' us, h => by
    simp only [tyEq, Bool.and_eq_true, beq_iff_eq] at h
    rw [h.1, tyEqL_eq ts us h.2]
theorem tyEqL_eq : ∀ (ts us : List Ty), tyEqL ts us = true → ts = us
  | [], [], _ => rfl
  | [], _ :: _, h => by simp [tyEqL] at h
  | _ :: _, [], h => by simp [tyEqL] at h
  | t :: ts, u :: us, h => by
    simp only [tyEqL, Bool.and_eq_true] at h
    rw [tyEq_eq t u h.1, tyEqL_eq ts us h.2]
end

theorem tyEq_ne {t u : Ty} (h : t ≠ u) : tyEq t u = false := by
  cases he : tyEq t u with
  | false => rfl
  | true => exact absurd (tyEq_eq t u he) h

theorem prec_refl8 : ∀ (d : Nat) (a : Ty), shp d a = true → prec a a = true
  | 0, a, ha => by simp [shp] at ha
  | d + 1, a, ha => by
    by_cases ha1 : kindT a = 1
    · exact prec_any ha1
    · cases sameK_of ha ha ha1 rfl with
      | leaf k hk => exact prec_leaf
      | two k x y x' y' hk hx hy hx' hy' => rw [prec_two hk, prec_refl8 d x hx, prec_refl8 d y hy]; rfl

/-- What is at least as precise as a type that is not unknown has its kind. -/
theorem prec_same {d : Nat} {c a : Ty} (hc : shp (d + 1) c = true) (ha : shp (d + 1) a = true) (ha1 : kindT a ≠ 1) (h : prec c a = true) : kindT c ≠ 1 ∧ kindT c = kindT a ∧ SameK d c a := by
  rcases prec_kind h with h1 | h1
  · exact absurd h1 ha1
  · have hc1 : kindT c ≠ 1 := by rw [h1]; exact ha1
    exact ⟨hc1, h1, sameK_of hc ha hc1 h1⟩

theorem shp_two8 {d : Nat} {k : Int} {x y : Ty} (hk : k = 4 ∨ k = 5) (hx : shp d x = true) (hy : shp d y = true) : shp (d + 1) (.mk k [x, y]) = true := by
  simp only [shp, List.all_cons, List.all_nil, hx, hy, Bool.and_true]
  rcases hk with rfl | rfl <;> rfl

/-- Meets are greatest lower bounds. -/
theorem meet_glb : ∀ (d : Nat) (a b : Ty), shp d a = true → shp d b = true → cons a b = true → shp d (meet a b) = true ∧ prec (meet a b) a = true ∧ prec (meet a b) b = true ∧ meet a b = meet b a ∧ (∀ c, shp d c = true → prec c a = true → prec c b = true → prec c (meet a b) = true)
  | 0, a, _, ha, _, _ => by simp [shp] at ha
  | d + 1, a, b, ha, hb, h => by
    rcases rel_cases ha hb with h1 | h1 | ⟨h1, h2, h3⟩ | ⟨h1, h2, hs⟩
    · rw [any_only9 ha h1, meet_any1]
      refine ⟨hb, prec_any rfl, prec_refl8 _ _ hb, (meet_unk b hb).symm, fun c _ _ h => h⟩
    · rw [any_only9 hb h1, meet_unk a ha]
      refine ⟨ha, prec_refl8 _ _ ha, prec_any rfl, (meet_any1 a).symm, fun c _ h _ => h⟩
    · rw [cons_diff h1 h2 h3] at h
      cases h
    · cases hs with
      | leaf k hk =>
        rw [meet_leaf (show k ≠ 1 by omega)]
        exact ⟨ha, prec_leaf, prec_leaf, rfl, fun c _ h _ => h⟩
      | two k x y x' y' hk hx hy hx' hy' =>
        rw [cons_two hk, Bool.and_eq_true] at h
        have hk1 : k ≠ 1 := by omega
        obtain ⟨a1, a2, a3, a5, a4⟩ := meet_glb d _ _ hx hx' h.1
        obtain ⟨b1, b2, b3, b5, b4⟩ := meet_glb d _ _ hy hy' h.2
        rw [meet_two hk1, meet_two hk1, prec_two hk, prec_two hk, a2, a3, b2, b3, ← a5, ← b5]
        refine ⟨shp_two8 hk a1 b1, rfl, rfl, rfl, fun c hc h1c h2c => ?_⟩
        obtain ⟨c1, c2, cs⟩ := prec_same hc ha h1 h1c
        cases cs with
        | two k' p q p' q' hk' hp hq hp' hq' =>
          rw [prec_two hk, Bool.and_eq_true] at h1c h2c ⊢
          exact ⟨a4 p hp h1c.1 h2c.1, b4 q hq h1c.2 h2c.2⟩

theorem prec_anti : ∀ (d : Nat) (a b : Ty), shp d a = true → shp d b = true → prec a b = true → prec b a = true → a = b
  | 0, a, _, ha, _, _, _ => by simp [shp] at ha
  | d + 1, a, b, ha, hb, h1, h2 => by
    by_cases hb1 : kindT b = 1
    · rcases prec_kind h2 with h | h
      · rw [any_only9 ha h, any_only9 hb hb1]
      · rw [any_only9 ha (by omega), any_only9 hb hb1]
    · obtain ⟨c1, c2, cs⟩ := prec_same ha hb hb1 h1
      cases cs with
      | leaf k hk => rfl
      | two k p q p' q' hk hp hq hp' hq' =>
        rw [prec_two hk, Bool.and_eq_true] at h1 h2
        rw [prec_anti d p p' hp hp' h1.1 h2.1, prec_anti d q q' hq hq' h1.2 h2.2]

theorem prec_meet (d : Nat) (a b : Ty) (ha : shp d a = true) (hb : shp d b = true) (h : cons a b = true) : prec a b = tyEq (meet a b) a := by
  obtain ⟨m1, m2, m3, m5, m4⟩ := meet_glb d a b ha hb h
  cases hp : prec a b with
  | true =>
    have h1 := m4 a ha (prec_refl8 d a ha) hp
    have := prec_anti d (meet a b) a m1 ha m2 h1
    rw [this, tyEq_refl]
  | false =>
    symm
    refine tyEq_ne fun e => ?_
    rw [e, hp] at m3
    cases m3

/-- Meets are associative. -/
theorem meet_assoc : ∀ (d : Nat) (a b c : Ty), shp d a = true → shp d b = true → shp d c = true → cons a b = true →
    cons (meet a b) c = (cons b c && cons a (meet b c)) ∧ (cons (meet a b) c = true → meet (meet a b) c = meet a (meet b c))
  | 0, a, _, _, ha, _, _, _ => by simp [shp] at ha
  | d + 1, a, b, c, ha, hb, hc, h => by
    rcases rel_cases ha hb with h1 | h1 | ⟨h1, h2, h3⟩ | ⟨h1, h2, hs⟩
    · rw [any_only9 ha h1, meet_any1, meet_any1, cons_any (a := .mk 1 []) (b := meet b c) (.inl rfl), Bool.and_true]
      exact ⟨rfl, fun _ => rfl⟩
    · rw [any_only9 hb h1, meet_unk a ha, meet_any1, cons_any (a := .mk 1 []) (b := c) (.inl rfl), Bool.true_and]
      exact ⟨rfl, fun _ => rfl⟩
    · rw [cons_diff h1 h2 h3] at h
      cases h
    · by_cases hc1 : kindT c = 1
      · obtain ⟨m1, -, -, -, -⟩ := meet_glb (d + 1) a b ha hb h
        rw [any_only9 hc hc1, meet_unk _ m1, meet_unk b hb, cons_any (b := .mk 1 []) (.inr rfl), cons_any (b := .mk 1 []) (.inr rfl), h]
        exact ⟨rfl, fun _ => rfl⟩
      by_cases hbc : kindT b = kindT c
      · cases hs with
        | leaf k hk =>
          cases sameK_of hb hc h2 hbc with
          | leaf k' hk' =>
            rw [meet_leaf (show k ≠ 1 by omega), meet_leaf (show k ≠ 1 by omega), cons_leaf]
            exact ⟨rfl, fun _ => rfl⟩
        | two k x y x' y' hk hx hy hx' hy' =>
          cases sameK_of hb hc h2 hbc with
          | two k' _ _ z u hk' _ _ hz hu =>
            have hk1 : k ≠ 1 := by omega
            rw [cons_two hk, Bool.and_eq_true] at h
            obtain ⟨i1, i2⟩ := meet_assoc d x x' z hx hx' hz h.1
            obtain ⟨j1, j2⟩ := meet_assoc d y y' u hy hy' hu h.2
            rw [meet_two hk1, cons_two hk, cons_two hk, meet_two hk1, meet_two hk1, cons_two hk, meet_two hk1, i1, j1]
            refine ⟨?_, fun hh => ?_⟩
            · generalize cons x' z = p1
              generalize cons x (meet x' z) = p2
              generalize cons y' u = p3
              generalize cons y (meet y' u) = p4
              cases p1 <;> cases p2 <;> cases p3 <;> cases p4 <;> rfl
            · rw [← i1, ← j1, Bool.and_eq_true] at hh
              rw [i2 hh.1, j2 hh.2]
      · have hkm : kindT (meet a b) = kindT b := by
          cases hs with
          | leaf k hk => rw [meet_leaf (show k ≠ 1 by omega)]
          | two k x y x' y' hk hx hy hx' hy' => rw [meet_two (show k ≠ 1 by omega)]; rfl
        have e1 : cons (meet a b) c = false := cons_diff (by rw [hkm]; exact h2) hc1 (by rw [hkm]; exact hbc)
        rw [e1, cons_diff h2 hc1 hbc]
        exact ⟨rfl, fun hh => by cases hh⟩

/-- Joins are least upper bounds. -/
theorem join_lub : ∀ (d : Nat) (a b : Ty), shp d a = true → shp d b = true → prec a (join a b) = true ∧ prec b (join a b) = true ∧ join a b = join b a ∧ (∀ c, shp d c = true → prec a c = true → prec b c = true → prec (join a b) c = true)
  | 0, a, _, ha, _ => by simp [shp] at ha
  | d + 1, a, b, ha, hb => by
    by_cases hkk : kindT a = kindT b
    · rcases rel_cases ha hb with h1 | h1 | ⟨h1, h2, h3⟩ | ⟨h1, h2, hs⟩
      · rw [any_only9 ha h1, any_only9 hb (by omega)]
        have e : join (.mk 1 []) (.mk 1 []) = .mk 1 [] := by simp [join, joinL]
        rw [e]
        exact ⟨prec_any rfl, prec_any rfl, rfl, fun c _ h _ => h⟩
      · rw [any_only9 ha (by omega), any_only9 hb h1]
        have e : join (.mk 1 []) (.mk 1 []) = .mk 1 [] := by simp [join, joinL]
        rw [e]
        exact ⟨prec_any rfl, prec_any rfl, rfl, fun c _ h _ => h⟩
      · exact absurd hkk h3
      · cases hs with
        | leaf k hk =>
          have e : join (.mk k []) (.mk k []) = .mk k [] := by simp [join, joinL]
          rw [e]
          exact ⟨prec_leaf, prec_leaf, rfl, fun c _ h _ => h⟩
        | two k x y x' y' hk hx hy hx' hy' =>
          have e : join (.mk k [x, y]) (.mk k [x', y']) = .mk k [join x x', join y y'] := by simp [join, joinL]
          have e' : join (.mk k [x', y']) (.mk k [x, y]) = .mk k [join x' x, join y' y] := by simp [join, joinL]
          obtain ⟨a1, a2, a3, a4⟩ := join_lub d _ _ hx hx'
          obtain ⟨b1, b2, b3, b4⟩ := join_lub d _ _ hy hy'
          rw [e, e', prec_two hk, prec_two hk, a1, a2, b1, b2, ← a3, ← b3]
          refine ⟨rfl, rfl, rfl, fun c hc h1c h2c => ?_⟩
          by_cases hc1 : kindT c = 1
          · exact prec_any hc1
          · obtain ⟨c1, c2, cs⟩ := prec_same ha hc hc1 h1c
            cases cs with
            | two k' p q p' q' hk' hp hq hp' hq' =>
              rw [prec_two hk, Bool.and_eq_true] at h1c h2c ⊢
              exact ⟨a4 p' hp' h1c.1 h2c.1, b4 q' hq' h1c.2 h2c.2⟩
    · rw [join_diff hkk, join_diff (fun h => hkk h.symm)]
      refine ⟨prec_any rfl, prec_any rfl, rfl, fun c hc h1 h2 => ?_⟩
      rcases prec_kind h1 with h | h
      · exact prec_any h
      · rcases prec_kind h2 with h' | h'
        · exact prec_any h'
        · exact absurd (h.trans h'.symm) hkk

theorem meetOf_glb (a b : Ty) (h : consOf a b = true) : vld (meetOf a b) = true ∧ precOf (meetOf a b) a = true ∧ precOf (meetOf a b) b = true ∧ meetOf b a = meetOf a b ∧ consOf b a = true ∧ (∀ c, precOf c a = true → precOf c b = true → precOf c (meetOf a b) = true) ∧ precOf a b = tyEq (meetOf a b) a := by
  have hm : meetOf a b = meet a b := by unfold meetOf; rw [if_pos h]
  simp only [consOf, Bool.and_eq_true] at h
  obtain ⟨⟨ha, hb⟩, hc⟩ := h
  obtain ⟨m1, m2, m3, m5, m4⟩ := meet_glb 4 a b ha hb hc
  have hv : vld (meet a b) = true := m1
  have hcc : consOf b a = true := by simp only [consOf, ha, hb, Bool.true_and]; exact cons_comm8 4 a b ha hb hc
  rw [hm]
  refine ⟨hv, by simp only [precOf, hv, ha, m2]; rfl, by simp only [precOf, hv, hb, m3]; rfl, by unfold meetOf; rw [if_pos hcc, m5], hcc, fun c h1 h2 => ?_, ?_⟩
  · simp only [precOf, Bool.and_eq_true] at h1 h2 ⊢
    exact ⟨⟨h1.1.1, hv⟩, m4 c h1.1.1 h1.2 h2.2⟩
  · simp only [precOf, ha, hb, Bool.true_and]
    exact prec_meet 4 a b ha hb hc

theorem vld_zero : vld (.mk 0 []) = false := by decide

theorem meetOf_assoc (a b c : Ty) (h : consOf a b = true) : consOf (meetOf a b) c = (consOf b c && consOf a (meetOf b c)) ∧ (consOf (meetOf a b) c = true → meetOf (meetOf a b) c = meetOf a (meetOf b c)) := by
  have hm : meetOf a b = meet a b := by unfold meetOf; rw [if_pos h]
  have hg := (meetOf_glb a b h).1
  simp only [consOf, Bool.and_eq_true] at h
  obtain ⟨⟨ha, hb⟩, hc⟩ := h
  cases hv : vld c with
  | false =>
    have e1 : consOf (meetOf a b) c = false := by simp only [consOf, hv, Bool.and_false, Bool.false_and]
    have e2 : consOf b c = false := by simp only [consOf, hv, Bool.and_false, Bool.false_and]
    rw [e1, e2]
    exact ⟨rfl, fun h => by cases h⟩
  | true =>
    obtain ⟨i1, i2⟩ := meet_assoc 4 a b c ha hb hv hc
    have e1 : consOf (meetOf a b) c = cons (meet a b) c := by rw [hm] at hg ⊢; simp only [consOf, hg, hv, Bool.true_and]
    have e2 : consOf b c = cons b c := by simp only [consOf, hb, hv, Bool.true_and]
    cases hbc : cons b c with
    | false =>
      rw [e1, i1, e2, hbc]
      exact ⟨rfl, fun h => by cases h⟩
    | true =>
      have hq : consOf b c = true := by rw [e2, hbc]
      have hm2 : meetOf b c = meet b c := by unfold meetOf; rw [if_pos hq]
      have hg2 := (meetOf_glb b c hq).1
      have e3 : consOf a (meetOf b c) = cons a (meet b c) := by rw [hm2] at hg2 ⊢; simp only [consOf, ha, hg2, Bool.true_and]
      rw [e1, i1, e3, hq, hbc]
      refine ⟨rfl, fun h => ?_⟩
      have hr : consOf a (meetOf b c) = true := by rw [e3]; simpa using h
      have hp : consOf (meetOf a b) c = true := by rw [e1, i1, hbc]; exact h
      have l1 : meetOf (meetOf a b) c = meet (meetOf a b) c := by rw [meetOf, if_pos hp]
      have l2 : meetOf a (meetOf b c) = meet a (meetOf b c) := by rw [meetOf, if_pos hr]
      rw [l1, l2, hm, hm2]
      exact i2 (by rw [i1, hbc]; exact h)

theorem joinOf_lub (a b : Ty) (h : (vld a && vld b) = true) : vld (joinOf a b) = true ∧ precOf a (joinOf a b) = true ∧ precOf b (joinOf a b) = true ∧ joinOf b a = joinOf a b ∧ (vld b && vld a) = true ∧ (∀ c, precOf a c = true → precOf b c = true → precOf (joinOf a b) c = true) := by
  have hj : joinOf a b = join a b := by unfold joinOf; rw [if_pos h]
  have h' : (vld b && vld a) = true := by rw [Bool.and_comm]; exact h
  have hj' : joinOf b a = join b a := by unfold joinOf; rw [if_pos h']
  have h0 := h
  simp only [Bool.and_eq_true] at h
  obtain ⟨h1, -, -, -⟩ := join_pure 4 a b h.1 h.2
  obtain ⟨j1, j2, j3, j4⟩ := join_lub 4 a b h.1 h.2
  have hv : vld (join a b) = true := h1
  rw [hj, hj']
  refine ⟨hv, by simp only [precOf, hv, h.1, j1]; rfl, by simp only [precOf, hv, h.2, j2]; rfl, j3.symm, h', fun c q1 q2 => ?_⟩
  simp only [precOf, Bool.and_eq_true] at q1 q2 ⊢
  exact ⟨⟨hv, q1.1.2⟩, j4 c q1.1.2 q1.2 q2.2⟩
end Go.Proofs.Ytelbpgdlcnnabaa

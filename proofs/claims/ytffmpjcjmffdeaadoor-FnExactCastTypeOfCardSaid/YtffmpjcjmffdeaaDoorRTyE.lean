/- The program's check by equal types gives the document's types of terms with casts, and these are valid. -/
import Derived.Test.YtffmpjcjmffdeaaDoorRG13
import Derived.Test.YtffmpjcjmffdeaaDoorRCkE
import Derived.Test.YtffmpjcjmffdeaaDoorRG19
namespace Go.Proofs.YtffmpjcjmffdeaaDoor
open Go.RowKit

/-- The operand i of a type. -/
def kd2 (i : Nat) (t : Ty) : Ty := ((kids2 t)[i]?).getD (.mk 0 [])

/-- The type of a node of a term with casts by the types of its operands: the document's exact rules. -/
def resE (k : Int) (ty fr : Ty) (us : List Ty) : Option Ty :=
  if k = 6 then (if (knd (nth us 0) == 4 && tyEq (kd2 0 (nth us 0)) (nth us 1)) = true then some (kd2 1 (nth us 0)) else none)
  else if k = 7 then (if (tyEq (nth us 0) tI && tyEq (nth us 1) tI) = true then some tI else none)
  else if k = 8 then (if (tyEq (nth us 0) tI && tyEq (nth us 1) tI) = true then some tB else none)
  else if k = 9 then (if (tyEq (nth us 0) tB && tyEq (nth us 1) (nth us 2)) = true then some (nth us 1) else none)
  else if k = 10 then twoV 5 (nth us 0) (nth us 1)
  else if k = 11 then (if (knd (nth us 0) == 5) = true then some (kd2 0 (nth us 0)) else none)
  else if k = 12 then (if (knd (nth us 0) == 5) = true then some (kd2 1 (nth us 0)) else none)
  else if k = 14 then (if tyEq (nth us 0) fr = true then some ty else none)
  else none

def nodE (xs : List Bd) (k : Int) (nm : ByteArray) (ty fr : Ty) (us : List Ty) : Option Ty :=
  if k = 1 then look xs nm else if k = 2 then some tI else if k = 3 ∨ k = 4 then some tB else if k = 5 then twoV 4 ty (nth us 0) else resE k ty fr us

mutual
/-- The type of a term with casts in a context, whose innermost binding comes first. -/
def tyX (xs : List Bd) : Tm → Option Ty
  | .mk k nm _ ty fr _ ts => (tyXL (inS xs k nm ty) ts).bind (nodE xs k nm ty fr)
def tyXL (xs : List Bd) : List Tm → Option (List Ty)
  | [] => some []
  | t :: ts => (tyX xs t).bind fun u => (tyXL xs ts).map (u :: ·)
end

theorem meet_self {a b : Ty} (h : consOf a b = true) (e : a = b) : meetOf a b = a := by
  subst e
  obtain ⟨h1, h2, -, -, -, h6⟩ := meetOf_glb a a h
  have hv := h
  simp only [consOf, Bool.and_eq_true] at hv
  have h7 := h6.1 a (by simp only [precOf, hv.1.1, Bool.true_and]; exact prec_refl8 4 a hv.1.1) (by simp only [precOf, hv.1.1, Bool.true_and]; exact prec_refl8 4 a hv.1.1)
  simp only [precOf, Bool.and_eq_true] at h2 h7
  exact prec_anti 4 _ _ h1 hv.1.1 h2.2 h7.2

theorem efit1 (e : Tm) (u v : Ty) (s : Int) : fitL exF [e] [u] [v] s = (if tyEq u v = true then some [e] else none, s) := by
  simp only [fitL, exF]
  by_cases h : tyEq u v = true <;> simp [h]

theorem efit2 (e e' : Tm) (u u' v v' : Ty) (s : Int) : fitL exF [e, e'] [u, u'] [v, v'] s = (if (tyEq u v && tyEq u' v') = true then some [e, e'] else none, s) := by
  simp only [fitL, exF]
  by_cases h : tyEq u v = true
  · by_cases h' : tyEq u' v' = true <;> simp [h, h']
  · simp [h]

theorem efit3 (e e' e2 : Tm) (u u' u2 v v' v2 : Ty) (s : Int) : fitL exF [e, e', e2] [u, u', u2] [v, v', v2] s = (if (tyEq u v && (tyEq u' v' && tyEq u2 v2)) = true then some [e, e', e2] else none, s) := by
  simp only [fitL, exF]
  by_cases h : tyEq u v = true
  · by_cases h' : tyEq u' v' = true
    · by_cases h2 : tyEq u2 v2 = true <;> simp [h, h', h2]
    · simp [h, h']
  · simp [h]

/-- A type that is matched and wanted to be the matched type itself. -/
theorem mt_ex {q : Int} (hq : q = 4 ∨ q = 5) {u : Ty} (hv : vld u = true) :
    (knd u = q → mtOk q u = true ∧ mtOf q 0 u = kd2 0 u ∧ mtOf q 1 u = kd2 1 u ∧ tyEq u (.mk q [mtOf q 0 u, mtOf q 1 u]) = true ∧ vld (kd2 0 u) = true ∧ vld (kd2 1 u) = true) ∧
    (knd u ≠ q → ∀ a b, tyEq u (.mk q [a, b]) = false) := by
  obtain ⟨k, ts, rfl⟩ := u.shape
  constructor
  · intro hk
    have hk' : k = q := hk
    subst hk'
    have hm : mtOk k (.mk k ts) = true := by simp [mtOk, hv, knd]
    have hk1 : (k == 1) = false := by rcases hq with rfl | rfl <;> rfl
    have e0 : mtOf k 0 (.mk k ts) = kd2 0 (.mk k ts) := by simp only [mtOf, hm, if_true, knd, hk1, Bool.false_eq_true, if_false, kd2]
    have e1 : mtOf k 1 (.mk k ts) = kd2 1 (.mk k ts) := by simp only [mtOf, hm, if_true, knd, hk1, Bool.false_eq_true, if_false, kd2]
    obtain ⟨p1, p2, -⟩ := mt_parts hq hm
    refine ⟨hm, e0, e1, ?_, e0 ▸ p1, e1 ▸ p2⟩
    obtain ⟨a, b, rfl⟩ := two_of hq hv
    rw [e0, e1]
    exact tyEq_refl _
  · intro hk a b
    exact tyEq_ne (fun e => hk (by rw [e]; rfl))

theorem chN_ex (xs : List Bd) (hx : ∀ x ∈ xs, vld x.ty = true) (k : Int) (nm : ByteArray) (num : Int) (ty fr : Ty) (lb : Int) (es : List Tm) (us : List Ty) (s : Int)
    (hk : kidsM k = (us.length : Int)) (hl : es.length = us.length) (h13 : k ≠ 13) (ho : k = 14 → vld ty = true) (hu : ∀ u ∈ us, vld u = true) :
    NodOk (chN exF xs k nm num ty fr lb es us s) (nodE xs k nm ty fr us) s := by
  have hlook : ∀ u, look xs nm = some u → vld u = true := by
    clear hk hl ho h13
    induction xs with
    | nil => intro u h; cases h
    | cons x xs ih =>
      intro u h
      rw [look] at h
      by_cases hn : x.nm = nm
      · rw [if_pos hn] at h
        cases h
        exact hx x (by simp)
      · rw [if_neg hn] at h
        exact ih (fun y hy => hx y (by simp [hy])) u h
  have n0 : ∀ {n : Nat}, us.length = n → es.length = n := fun h => hl.trans h
  unfold chN nodE
  by_cases h1 : k = 1
  · subst h1
    have hl0 : us.length = 0 := by have : kidsM 1 = 0 := (by decide); omega
    obtain rfl := List.length_eq_zero_iff.1 hl0
    obtain rfl := List.length_eq_zero_iff.1 (n0 hl0)
    simp only [ruleM, if_true]
    cases hlk : look xs nm with
    | none => exact NodOk.no s
    | some t =>
      simp only [Option.map_some, fitL]
      rw [if_pos (hlook t hlk)]
      exact NodOk.yes s (hlook t hlk)
  by_cases h2 : k = 2
  · subst h2
    have hl0 : us.length = 0 := by have : kidsM 2 = 0 := (by decide); omega
    obtain rfl := List.length_eq_zero_iff.1 hl0
    obtain rfl := List.length_eq_zero_iff.1 (n0 hl0)
    simp only [ruleM, fitL, if_true]
    exact NodOk.yes s vld_I
  by_cases h3 : k = 3 ∨ k = 4
  · have hl0 : us.length = 0 := by
      have : kidsM k = 0 := by rcases h3 with rfl | rfl <;> decide
      omega
    obtain rfl := List.length_eq_zero_iff.1 hl0
    obtain rfl := List.length_eq_zero_iff.1 (n0 hl0)
    simp only [ruleM, if_neg h1, if_neg h2, if_pos h3, fitL, vld_B, if_true]
    exact NodOk.yes s vld_B
  by_cases h5 : k = 5
  · subst h5
    have hl0 : us.length = 1 := by have : kidsM 5 = 1 := (by decide); omega
    obtain ⟨u, rfl⟩ := List.length_eq_one_iff.1 hl0
    obtain ⟨e, rfl⟩ := List.length_eq_one_iff.1 (n0 hl0)
    exact NodOk.two (k := 5) (q := 4) (by rw [efit1, if_pos (tyEq_refl u)])
  have two : kidsM k = 2 → ∃ u u' e e', us = [u, u'] ∧ es = [e, e'] := fun h => by
    have hl0 : us.length = 2 := by omega
    match us, hl0 with
    | [u, u'], _ => match es, n0 rfl with
      | [e, e'], _ => exact ⟨_, _, _, _, rfl, rfl⟩
  have one : kidsM k = 1 → ∃ u e, us = [u] ∧ es = [e] := fun h => by
    have hl0 : us.length = 1 := by omega
    obtain ⟨u, rfl⟩ := List.length_eq_one_iff.1 hl0
    obtain ⟨e, rfl⟩ := List.length_eq_one_iff.1 (n0 hl0)
    exact ⟨_, _, rfl, rfl⟩
  simp only [if_neg h1, if_neg h2, if_neg h3, if_neg h5]
  by_cases h6 : k = 6
  · subst h6
    obtain ⟨u, u', e, e', rfl, rfl⟩ := two (by decide)
    obtain ⟨g1, g2⟩ := mt_ex (q := 4) (.inl rfl) (hu u (by simp))
    simp only [ruleM, resE, nth, List.getD_cons_zero, List.getD_cons_succ, if_true, if_neg h1, if_neg h2, if_neg h3, if_neg h5]
    by_cases hkd : knd u = 4
    · obtain ⟨p0, p1, p2, p3, p4, p5⟩ := g1 hkd
      have hkb : (knd u == 4) = true := by simpa using hkd
      simp only [p0, if_true, efit2, p3, Bool.true_and, hkb]
      rw [p1, p2, tyEq_comm u' (kd2 0 u)]
      simp only [p5, if_true]
      by_cases hc : tyEq (kd2 0 u) u' = true
      · simp only [hc, if_true]
        exact NodOk.yes s p5
      · simp only [hc, Bool.false_eq_true, if_false]
        exact NodOk.no s
    · have hkb : (knd u == 4) = false := by simpa using hkd
      simp only [hkb, Bool.false_and, Bool.false_eq_true, if_false]
      by_cases hm : mtOk 4 u = true
      · simp only [hm, if_true, efit2, g2 hkd, Bool.false_and, Bool.false_eq_true, if_false]
        split <;> exact NodOk.no s
      · simp only [hm, Bool.false_eq_true, if_false]
        exact NodOk.no s
  by_cases h7 : k = 7
  · subst h7
    obtain ⟨u, u', e, e', rfl, rfl⟩ := two (by decide)
    simp only [ruleM, resE, nth, List.getD_cons_zero, List.getD_cons_succ, if_true, if_neg h1, if_neg h2, if_neg h3, if_neg h5, if_neg h6, vld_I, efit2]
    by_cases hc : (tyEq u tI && tyEq u' tI) = true
    · simp only [hc, if_true]
      exact NodOk.yes s vld_I
    · simp only [hc, Bool.false_eq_true, if_false]
      exact NodOk.no s
  by_cases h8 : k = 8
  · subst h8
    obtain ⟨u, u', e, e', rfl, rfl⟩ := two (by decide)
    simp only [ruleM, resE, nth, List.getD_cons_zero, List.getD_cons_succ, if_true, if_neg h1, if_neg h2, if_neg h3, if_neg h5, if_neg h6, if_neg h7, vld_B, efit2]
    by_cases hc : (tyEq u tI && tyEq u' tI) = true
    · simp only [hc, if_true]
      exact NodOk.yes s vld_B
    · simp only [hc, Bool.false_eq_true, if_false]
      exact NodOk.no s
  by_cases h9 : k = 9
  · subst h9
    have hl0 : us.length = 3 := by have : kidsM 9 = 3 := (by decide); omega
    obtain ⟨u, u', u2, rfl⟩ : ∃ a b c, us = [a, b, c] := by
      match us, hl0 with
      | [a, b, c], _ => exact ⟨_, _, _, rfl⟩
    obtain ⟨e, e', e2, rfl⟩ : ∃ a b c, es = [a, b, c] := by
      match es, n0 hl0 with
      | [a, b, c], _ => exact ⟨_, _, _, rfl⟩
    have hu1 := hu u' (by simp)
    simp only [ruleM, resE, nth, List.getD_cons_zero, List.getD_cons_succ, if_true, if_neg h1, if_neg h2, if_neg h3, if_neg h5, if_neg h6, if_neg h7, if_neg h8]
    by_cases he : tyEq u' u2 = true
    · have hee := tyEq_eq _ _ he
      subst hee
      have hc := consOf_self hu1
      simp only [if_pos hc, meet_self hc rfl, hu1, if_true, efit3, tyEq_refl, Bool.and_true]
      by_cases hb : tyEq u tB = true
      · simp only [hb, if_true]
        exact NodOk.yes s hu1
      · simp only [hb, Bool.false_eq_true, if_false]
        exact NodOk.no s
    · have he' : tyEq u' u2 = false := by simpa using he
      simp only [he', Bool.and_false, Bool.false_eq_true, if_false]
      by_cases hm : consOf u' u2 = true
      · have hx2 : (tyEq u' (meetOf u' u2) && tyEq u2 (meetOf u' u2)) = false := by
          rw [Bool.eq_false_iff]
          intro h
          simp only [Bool.and_eq_true] at h
          have a1 := tyEq_eq _ _ h.1
          have a2 := tyEq_eq _ _ h.2
          exact he (by rw [a1.trans a2.symm]; exact tyEq_refl _)
        simp only [if_pos hm, (meetOf_fit hm).1, if_true, efit3, hx2, Bool.and_false, Bool.false_eq_true, if_false]
        exact NodOk.no s
      · simp only [if_neg hm]
        exact NodOk.no s
  by_cases h10 : k = 10
  · subst h10
    obtain ⟨u, u', e, e', rfl, rfl⟩ := two (by decide)
    exact NodOk.two (k := 10) (q := 5) (by rw [efit2, tyEq_refl, tyEq_refl]; rfl)
  by_cases h11 : k = 11
  · subst h11
    obtain ⟨u, e, rfl, rfl⟩ := one (by decide)
    obtain ⟨g1, g2⟩ := mt_ex (q := 5) (.inr rfl) (hu u (by simp))
    simp only [ruleM, resE, nth, List.getD_cons_zero, List.getD_cons_succ, if_true, if_neg h1, if_neg h2, if_neg h3, if_neg h5, if_neg h6, if_neg h7, if_neg h8, if_neg h9, if_neg h10]
    by_cases hkd : knd u = 5
    · obtain ⟨p0, p1, p2, p3, p4, p5⟩ := g1 hkd
      have hkb : (knd u == 5) = true := by simpa using hkd
      simp only [p0, if_true, efit1, p3, hkb]
      rw [p1]
      simp only [p4, if_true]
      exact NodOk.yes s p4
    · have hkb : (knd u == 5) = false := by simpa using hkd
      simp only [hkb, Bool.false_eq_true, if_false]
      by_cases hm : mtOk 5 u = true
      · simp only [hm, if_true, efit1, g2 hkd, Bool.false_eq_true, if_false]
        split <;> exact NodOk.no s
      · simp only [hm, Bool.false_eq_true, if_false]
        exact NodOk.no s
  by_cases h12 : k = 12
  · subst h12
    obtain ⟨u, e, rfl, rfl⟩ := one (by decide)
    obtain ⟨g1, g2⟩ := mt_ex (q := 5) (.inr rfl) (hu u (by simp))
    simp only [ruleM, resE, nth, List.getD_cons_zero, List.getD_cons_succ, if_true, if_neg h1, if_neg h2, if_neg h3, if_neg h5, if_neg h6, if_neg h7, if_neg h8, if_neg h9, if_neg h10, if_neg h11]
    by_cases hkd : knd u = 5
    · obtain ⟨p0, p1, p2, p3, p4, p5⟩ := g1 hkd
      have hkb : (knd u == 5) = true := by simpa using hkd
      simp only [p0, if_true, efit1, p3, hkb]
      rw [p2]
      simp only [p5, if_true]
      exact NodOk.yes s p5
    · have hkb : (knd u == 5) = false := by simpa using hkd
      simp only [hkb, Bool.false_eq_true, if_false]
      by_cases hm : mtOk 5 u = true
      · simp only [hm, if_true, efit1, g2 hkd, Bool.false_eq_true, if_false]
        split <;> exact NodOk.no s
      · simp only [hm, Bool.false_eq_true, if_false]
        exact NodOk.no s
  by_cases h14 : k = 14
  · subst h14
    obtain ⟨u, e, rfl, rfl⟩ := one (by decide)
    have hty := ho rfl
    simp only [ruleM, resE, nth, List.getD_cons_zero, List.getD_cons_succ, if_true, if_neg h1, if_neg h2, if_neg h3, if_neg h5, if_neg h6, if_neg h7, if_neg h8, if_neg h9, if_neg h10, if_neg h11, if_neg h12, if_neg h13, hty, efit1]
    by_cases hc : tyEq u fr = true
    · simp only [hc, if_true]
      exact NodOk.yes s hty
    · simp only [hc, Bool.false_eq_true, if_false]
      exact NodOk.no s
  · have : kidsM k = -1 := by unfold kidsM; rw [if_neg (by omega), if_neg (by omega), if_neg (by omega), if_neg (by omega)]
    omega

theorem inS_vldC {xs : List Bd} {k : Int} {nm : ByteArray} {num : Int} {ty fr : Ty} {lb : Int} (hx : ∀ x ∈ xs, vld x.ty = true) (ho : (if k = 14 then own4 nm num ty fr lb else ownM k nm num ty fr lb) = true) : ∀ x ∈ inS xs k nm ty, vld x.ty = true := by
  intro x h
  unfold inS at h
  by_cases h5 : k = 5
  · rw [if_pos h5] at h
    rcases List.mem_cons.1 h with rfl | h
    · subst h5
      rw [if_neg (by decide)] at ho
      simp only [ownM, Bool.and_eq_true] at ho
      simpa using ho.1.1.2
    · exact hx x h
  · rw [if_neg h5] at h
    exact hx x h

mutual
theorem chM_ex : ∀ (t : Tm) (d : Nat) (xs : List Bd) (s : Int), shpC d t = true → (∀ x ∈ xs, vld x.ty = true) → NodOk (chM exF xs t s) (tyX xs t) s
  | .mk k nm num ty fr lb ts, d, xs, s, h, hx => by
    cases d with
    | zero => simp [shpC] at h
    | succ d =>
      simp only [shpC, Bool.and_eq_true, beq_iff_eq, bne_iff_ne, ne_eq, List.all_eq_true] at h
      obtain ⟨⟨⟨hk, h13⟩, ho⟩, hts⟩ := h
      have hi := inS_vldC hx ho
      simp only [chM, tyX]
      obtain ⟨p, h1, h2, h3⟩ := chL_ex ts d (inS xs k nm ty) s hts hi
      rw [h1]
      cases p with
      | none =>
        simp only [Option.map_none] at h2
        rw [← h2]
        exact NodOk.no s
      | some ps =>
        simp only [Option.map_some] at h2
        rw [← h2]
        simp only [Option.bind_some]
        have hlen := chL_len h1
        exact chN_ex xs hx k nm num ty fr lb _ _ s (by rw [List.length_map, hlen]; exact hk) (by rw [List.length_map, List.length_map]) h13 (fun e => by rw [if_pos e] at ho; simp only [own4, Bool.and_eq_true] at ho; exact ho.1.1.2) (h3 _ h2.symm)
theorem chL_ex : ∀ (ts : List Tm) (d : Nat) (xs : List Bd) (s : Int), (∀ t ∈ ts, shpC d t = true) → (∀ x ∈ xs, vld x.ty = true) →
    ∃ p, chL exF xs ts s = (p, s) ∧ p.map (List.map Prod.snd) = tyXL xs ts ∧ ∀ us, tyXL xs ts = some us → ∀ u ∈ us, vld u = true
  | [], d, xs, s, _, _ => ⟨some [], rfl, rfl, fun us h u hu => by simp only [tyXL, Option.some.injEq] at h; subst h; cases hu⟩
  | t :: ts, d, xs, s, h, hx => by
    obtain ⟨p, h1, h2, h3⟩ := chM_ex t d xs s (h t (by simp)) hx
    obtain ⟨q, g1, g2, g3⟩ := chL_ex ts d xs s (fun u hu => h u (by simp [hu])) hx
    simp only [chL, tyXL]
    rw [h1]
    cases p with
    | none =>
      simp only [Option.map_none] at h2
      rw [← h2]
      exact ⟨none, rfl, rfl, fun us h => by simp at h⟩
    | some p =>
      simp only [Option.map_some] at h2
      simp only
      rw [g1, ← h2]
      cases q with
      | none =>
        simp only [Option.map_none] at g2
        rw [← g2]
        exact ⟨none, rfl, rfl, fun us h => by simp at h⟩
      | some q =>
        simp only [Option.map_some] at g2
        rw [← g2]
        refine ⟨_, rfl, rfl, fun us hus u hu => ?_⟩
        simp only [Option.bind_some, Option.map_some, Option.some.injEq] at hus
        subst hus
        rcases List.mem_cons.1 hu with rfl | hu
        · exact h3 _ h2.symm
        · exact g3 _ g2.symm u hu
end
end Go.Proofs.YtffmpjcjmffdeaaDoor

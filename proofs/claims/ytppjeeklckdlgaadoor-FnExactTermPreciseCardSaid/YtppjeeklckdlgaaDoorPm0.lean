/- At least as precise, of terms, plainly. -/
import Derived.Test.YtppjeeklckdlgaaDoorMs3
import Derived.Test.YtppjeeklckdlgaaDoorErA
import Derived.Test.YtppjeeklckdlgaaDoorTysT
import Derived.Test.YtppjeeklckdlgaaDoorRelP
namespace Go.Proofs.YtppjeeklckdlgaaDoor
open Go.RowKit

mutual
/-- Two terms alike but for their types, which are at least as precise. -/
def tmPr : Tm → Tm → Bool
  | .mk k nm num ty _ _ ts, .mk k' nm' num' ty' _ _ us => decide (k = k') && decide (nm = nm') && decide (num = num') && decide (ts.length = us.length) && (!(decide (k = 5 ∨ k = 13)) || prec ty ty') && tmPrL ts us
def tmPrL : List Tm → List Tm → Bool
  | [], _ => true
  | _ :: _, [] => true
  | t :: ts, u :: us => tmPr t u && tmPrL ts us
end

theorem tmPrL_step : ∀ {ts us : List Tm} {j : Nat} (h1 : j < ts.length) (h2 : j < us.length), tmPrL (ts.drop j) (us.drop j) = (tmPr ts[j] us[j] && tmPrL (ts.drop (j + 1)) (us.drop (j + 1)))
  | t :: ts, u :: us, 0, _, _ => by simp only [List.drop_zero, tmPrL, List.getElem_cons_zero, List.drop_succ_cons]
  | t :: ts, u :: us, j + 1, h1, h2 => by
    simp only [List.drop_succ_cons, List.getElem_cons_succ]
    exact tmPrL_step (by simpa using h1) (by simpa using h2)

/-- Two lists of types, one by one. -/
def prAll : List Ty → List Ty → Bool
  | [], [] => true
  | t :: ts, u :: us => precOf t u && prAll ts us
  | _, _ => false

theorem prAll_len : ∀ {ts us : List Ty}, ts.length ≠ us.length → prAll ts us = false
  | [], [], h => by simp at h
  | [], _ :: _, _ => rfl
  | _ :: _, [], _ => rfl
  | t :: ts, u :: us, h => by simp only [prAll]; rw [prAll_len (by simpa using h), Bool.and_false]

theorem prAll_step : ∀ {ts us : List Ty} {j : Nat} (h1 : j < ts.length) (h2 : j < us.length), prAll (ts.drop j) (us.drop j) = (precOf ts[j] us[j] && prAll (ts.drop (j + 1)) (us.drop (j + 1)))
  | t :: ts, u :: us, 0, _, _ => rfl
  | t :: ts, u :: us, j + 1, h1, h2 => by
    simp only [List.drop_succ_cons, List.getElem_cons_succ]
    exact prAll_step (by simpa using h1) (by simpa using h2)

theorem prAll_append : ∀ {a b c d : List Ty}, a.length = b.length → prAll (a ++ c) (b ++ d) = (prAll a b && prAll c d)
  | [], [], _, _, _ => by simp [prAll]
  | [], _ :: _, _, _, h => by simp at h
  | _ :: _, [], _, _, h => by simp at h
  | t :: a, u :: b, c, d, h => by
    simp only [List.cons_append, prAll]
    rw [prAll_append (a := a) (b := b) (by simpa using h), Bool.and_assoc]

mutual
/-- A term with the unknown type for each of its types. -/
def ers : Tm → Tm
  | .mk k nm num ty fr lb ts => .mk k nm num (if hasTy k then .mk 1 [] else ty) fr lb (ersL ts)
def ersL : List Tm → List Tm
  | [] => []
  | t :: ts => ers t :: ersL ts
end

mutual
theorem wiT_ers : ∀ (t : Tm) (n : Nat), wiT (fun _ => .mk 1 []) n t = ers t
  | .mk k nm num ty fr lb ts, n => by simp only [wiT, ers, wiL_ers ts]
theorem wiL_ers : ∀ (ts : List Tm) (n : Nat), wiL (fun _ => .mk 1 []) n ts = ersL ts
  | [], _ => by simp only [wiL, ersL]
  | t :: ts, n => by simp only [wiL, ersL, wiT_ers t, wiL_ers ts]
end

mutual
theorem ers_tys : ∀ (t u : Tm), tmEq (ers t) (ers u) = true → (tysOf t).length = (tysOf u).length
  | .mk k nm num ty fr lb ts, .mk k' nm' num' ty' fr' lb' us, h => by
    simp only [ers, tmEq, Bool.and_eq_true, decide_eq_true_eq] at h
    obtain ⟨⟨⟨⟨⟨⟨rfl, _⟩, _⟩, _⟩, _⟩, _⟩, h3⟩ := h
    simp only [tysOf, List.length_append, ersL_tys ts us h3]
    split <;> simp
theorem ersL_tys : ∀ (ts us : List Tm), tmEqL (ersL ts) (ersL us) = true → (tysL ts).length = (tysL us).length
  | [], [], _ => rfl
  | [], _ :: _, h => by simp [ersL, tmEqL] at h
  | _ :: _, [], h => by simp [ersL, tmEqL] at h
  | t :: ts, u :: us, h => by
    simp only [ersL, tmEqL, Bool.and_eq_true] at h
    simp only [tysL, List.length_append, ers_tys t u h.1, ersL_tys ts us h.2]
end

theorem ersL_pr {d : Nat} (ih : ∀ t u : Tm, shpM d t = true → shpM d u = true → (tmEq (ers t) (ers u) && prAll (tysOf t) (tysOf u)) = tmPr t u) :
    ∀ ts us : List Tm, ts.length = us.length → (∀ t ∈ ts, shpM d t = true) → (∀ u ∈ us, shpM d u = true) → (tmEqL (ersL ts) (ersL us) && prAll (tysL ts) (tysL us)) = tmPrL ts us
  | [], [], _, _, _ => by simp [ersL, tmEqL, tysL, prAll, tmPrL]
  | [], _ :: _, h, _, _ => by simp at h
  | _ :: _, [], h, _, _ => by simp at h
  | t :: ts, u :: us, h, h1, h2 => by
    have e1 := ih t u (h1 t (by simp)) (h2 u (by simp))
    have e2 := ersL_pr ih ts us (by simpa using h) (fun x hx => h1 x (by simp [hx])) (fun x hx => h2 x (by simp [hx]))
    simp only [ersL, tmEqL, tysL, tmPrL]
    rw [← e1, ← e2]
    cases he : tmEq (ers t) (ers u) with
    | false => simp
    | true =>
      rw [prAll_append (ers_tys t u he)]
      cases tmEqL (ersL ts) (ersL us) <;> cases prAll (tysOf t) (tysOf u) <;> simp

theorem noTy_zero {t : Ty} (h : noTy t = true) : t = .mk 0 [] := by
  obtain ⟨k, ts, rfl⟩ := t.shape
  simp only [noTy, Bool.and_eq_true, beq_iff_eq, List.length_eq_zero_iff] at h
  rw [h.1, h.2]

/-- What a right node without casts is. -/
theorem shpM_parts {d : Nat} {k : Int} {nm : ByteArray} {num : Int} {ty fr : Ty} {lb : Int} {ts : List Tm} (h : shpM d (.mk k nm num ty fr lb ts) = true) :
    ∃ d', d = d' + 1 ∧ (∀ t ∈ ts, shpM d' t = true) ∧ kidsM k = (ts.length : Int) ∧ k ≠ 14 ∧ fr = .mk 0 [] ∧ lb = 0 ∧ ((k = 5 ∨ k = 13) → vld ty = true) ∧ (¬ (k = 5 ∨ k = 13) → ty = .mk 0 []) := by
  cases d with
  | zero => simp [shpM] at h
  | succ d =>
    simp only [shpM, Bool.and_eq_true, beq_iff_eq, bne_iff_ne, ne_eq, List.all_eq_true] at h
    obtain ⟨⟨⟨hk, h14⟩, ho⟩, hts⟩ := h
    have e14 : (k == 14) = false := by simpa using h14
    simp only [ownM, Bool.and_eq_true, e14, Bool.false_or, beq_iff_eq] at ho
    obtain ⟨⟨⟨_, hty⟩, hfr, hlb⟩, _⟩ := ho
    refine ⟨d, rfl, hts, hk, h14, noTy_zero hfr, hlb, fun hq => ?_, fun hq => ?_⟩
    · rw [if_pos (by omega)] at hty; exact hty
    · rw [if_neg (by omega)] at hty; exact noTy_zero hty

theorem ers_pr : ∀ (d : Nat) (t u : Tm), shpM d t = true → shpM d u = true → (tmEq (ers t) (ers u) && prAll (tysOf t) (tysOf u)) = tmPr t u
  | 0, _, _, h, _ => by simp [shpM] at h
  | d + 1, .mk k nm num ty fr lb ts, .mk k' nm' num' ty' fr' lb' us, h1, h2 => by
    obtain ⟨d1, e1, hts, hk, _, rfl, rfl, hv, hz⟩ := shpM_parts h1
    obtain ⟨d2, e2, hus, hk', _, rfl, rfl, hv', hz'⟩ := shpM_parts h2
    obtain rfl : d = d1 := by omega
    obtain rfl : d = d2 := by omega
    simp only [ers, tmEq, tysOf, tmPr]
    by_cases q : k = k'
    case neg => simp [q]
    subst q
    have hl : ts.length = us.length := by omega
    have el := ersL_pr (ers_pr d) ts us hl hts hus
    by_cases q : nm = nm'
    case neg => simp [q]
    by_cases q3 : num = num'
    case neg => simp [q3]
    rw [← el]
    by_cases hq : k = 5 ∨ k = 13
    · have e1 : precOf ty ty' = prec ty ty' := by simp [precOf, hv hq, hv' hq]
      simp only [List.singleton_append, prAll, e1, hasTy, hq, decide_true, if_true, tyEq_refl, q, q3, hl, Bool.and_true, Bool.true_and, Bool.not_true, Bool.false_or]
      cases tmEqL (ersL ts) (ersL us) <;> cases prec ty ty' <;> simp
    · obtain rfl := hz hq
      obtain rfl := hz' hq
      simp [hasTy, hq, tyEq_refl, q, q3, hl]

/-- The document's TermPrecise. -/
def tpV (t u : Tm) : Bool := vldM t && vldM u && tmPr t u

theorem vldM_shp {t : Tm} (h : vldM t = true) : shpM 12 t = true := by
  unfold vldM at h
  simp only [Bool.and_eq_true] at h
  exact h.1

theorem tpV_impl (t u : Tm) (h1 : vldM t = true) (h2 : vldM u = true) : tpV t u = (tmEq (erT t) (erT u) && prAll (tyLst t) (tyLst u)) := by
  simp only [tpV, h1, h2, Bool.true_and, erT, if_true, wiT_ers, tyLst]
  exact (ers_pr 12 t u (vldM_shp h1) (vldM_shp h2)).symm
end Go.Proofs.YtppjeeklckdlgaaDoor

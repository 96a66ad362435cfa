/- The document's EmbedTerm as a plain function: a term with the unknown type in each place. -/
import Derived.Test.YtdehhobpfaaboaaDoorBrN
import Derived.Test.YtdehhobpfaaboaaDoorMMk
namespace Go.Proofs.YtdehhobpfaaboaaDoor
open Go.RowKit

/-- A term that is given the unknown type. -/
def asT (t : Tm) : Tm := .mk 13 ByteArray.empty 0 (.mk 1 []) (.mk 0 []) 0 [t]
/-- The kinds of terms that have the unknown type by themselves. -/
def emK (k : Int) : Bool := decide (k = 1 ∨ k = 6 ∨ k = 9 ∨ k = 11 ∨ k = 12)
def emN (k : Int) (t : Tm) : Tm := if emK k = true then t else asT t

mutual
/-- The term without types. -/
def embT : Tm → Tm
  | .mk k nm num _ _ _ ts => if k = 13 ∨ k = 14 then embH ts else emN k (.mk k nm num (if k = 5 then .mk 1 [] else .mk 0 []) (.mk 0 []) 0 (embL ts))
def embH : List Tm → Tm
  | [] => asT (.mk 0 ByteArray.empty 0 (.mk 0 []) (.mk 0 []) 0 [])
  | t :: _ => embT t
def embL : List Tm → List Tm
  | [] => []
  | t :: ts => embT t :: embL ts
end

theorem embL_len : ∀ ts : List Tm, (embL ts).length = ts.length
  | [] => by simp only [embL, List.length_nil]
  | t :: ts => by simp only [embL, List.length_cons, embL_len ts]

theorem embL_get : ∀ (ts : List Tm) (j : Nat) (h : j < ts.length) (h' : j < (embL ts).length), (embL ts)[j] = embT ts[j]
  | t :: ts, 0, _, _ => by simp [embL]
  | t :: ts, j + 1, h, h' => by
    simp only [embL, List.getElem_cons_succ]
    exact embL_get ts j (by simpa using h) _

theorem embL_take : ∀ (ts : List Tm) (j : Nat) (h : j < ts.length), (embL ts).take (j + 1) = (embL ts).take j ++ [embT ts[j]]
  | t :: ts, 0, _ => by simp [embL]
  | t :: ts, j + 1, h => by
    have := embL_take ts j (by simpa using h)
    simp only [embL, List.take_succ_cons, List.getElem_cons_succ, List.cons_append, this]

theorem embT_cast {k : Int} {nm : ByteArray} {num : Int} {ty fr : Ty} {lb : Int} {ts : List Tm} (h : k = 13 ∨ k = 14) (hp : 0 < ts.length) : embT (.mk k nm num ty fr lb ts) = embT ts[0] := by
  cases ts with
  | nil => simp at hp
  | cons t ts => simp only [embT, if_pos h, embH, List.getElem_cons_zero]

theorem embT_not {k : Int} {nm : ByteArray} {num : Int} {ty fr : Ty} {lb : Int} {ts : List Tm} (h : ¬(k = 13 ∨ k = 14)) : embT (.mk k nm num ty fr lb ts) = emN k (.mk k nm num (bty k) (.mk 0 []) 0 (embL ts)) := by
  simp only [embT, if_neg h]
  rfl

theorem embT_strp : ∀ t : Tm, embT (strp t) = embT t := Tm.ind fun k nm num ty fr lb ts ih => by
  by_cases h : k = 13 ∨ k = 14
  · cases ts with
    | nil =>
      simp only [strp, if_pos h, strpH, embT, embH, embL]
      rfl
    | cons t ts =>
      rw [strp_cast h (by simp), embT_cast h (by simp)]
      exact ih t (by simp)
  · rw [strp_not h]

theorem StpOf.emb {t : Tm} {k : Int} {nm : ByteArray} {num : Int} {ts : List Tm} (h : StpOf t k nm num ts) : embT t = emN k (.mk k nm num (bty k) (.mk 0 []) 0 (embL ts)) := by
  obtain ⟨hk, ty, fr, lb, e⟩ := h
  rw [← embT_strp, e, embT_not hk]

mutual
/-- No casts. -/
def ncT : Tm → Prop
  | .mk k _ _ _ _ _ ts => k ≠ 14 ∧ ncL ts
def ncL : List Tm → Prop
  | [] => True
  | t :: ts => ncT t ∧ ncL ts
end

theorem ncL_get : ∀ {ts : List Tm} (_ : ncL ts) (j : Nat) (h : j < ts.length), ncT ts[j]
  | t :: ts, h, 0, _ => by simp only [ncL] at h; exact h.1
  | t :: ts, h, j + 1, hj => by simp only [ncL] at h; exact ncL_get h.2 j (by simpa using hj)

theorem ncL_all {f : Tm → Bool} : ∀ {ts : List Tm} (_ : ts.all f = true) (_ : ∀ t, f t = true → ncT t), ncL ts
  | [], _, _ => by simp only [ncL]
  | t :: ts, h, hf => by
    rw [List.all_cons, Bool.and_eq_true] at h
    simp only [ncL]
    exact ⟨hf t h.1, ncL_all h.2 hf⟩

theorem nc_shpM : ∀ (d : Nat) (t : Tm), shpM d t = true → ncT t
  | 0, _, h => by simp [shpM] at h
  | d + 1, .mk k nm num ty fr lb ts, h => by
    simp only [shpM, Bool.and_eq_true, bne_iff_ne, ne_eq] at h
    simp only [ncT]
    exact ⟨h.1.1.2, ncL_all h.2 (nc_shpM d)⟩

theorem emN_sz (k : Int) (t : Tm) : (emN k t).sz ≤ t.sz + 1 := by
  unfold emN
  split
  · omega
  · simp only [asT, Tm.sz, szML, Ty.cnt, cntL, List.length_cons, List.length_nil]
    simp
    omega

theorem emN_num (k : Int) (t : Tm) : (emN k t).num ≤ t.num + 6 := by
  unfold emN
  split
  · omega
  · simp only [asT, Tm.num, numL, Ty.cnt, cntL]
    simp
    omega

theorem bty_cnt (k : Int) : (bty k).cnt = 0 := by
  unfold bty
  split <;> simp [Ty.cnt, cntL]

theorem embL_sz_of {d : Nat} (h : ∀ t, shpM d t = true → ((embT t).sz + 1 : Int) ≤ 3 * cntD d t ∧ ((embT t).num + 6 : Int) ≤ 12 * cntD d t) : ∀ (ts : List Tm), ts.all (shpM d) = true → ((szML (embL ts) + (embL ts).length : Nat) : Int) ≤ 3 * sumL (cntD d) ts ∧ ((numL (embL ts) : Nat) : Int) ≤ 12 * sumL (cntD d) ts
  | [], _ => by simp [embL, szML, numL, sumL]
  | t :: ts, ht => by
    rw [List.all_cons, Bool.and_eq_true] at ht
    have h1 := h t ht.1
    have h2 := embL_sz_of h ts ht.2
    simp only [embL, szML, numL, sumL, List.length_cons]
    omega

theorem embT_sz : ∀ (d : Nat) (t : Tm), shpM d t = true → ((embT t).sz + 1 : Int) ≤ 3 * cntD d t ∧ ((embT t).num + 6 : Int) ≤ 12 * cntD d t
  | 0, _, h => by simp [shpM] at h
  | d + 1, .mk k nm num ty fr lb ts, h => by
    simp only [shpM, Bool.and_eq_true, bne_iff_ne, ne_eq] at h
    obtain ⟨⟨⟨hk, h14⟩, hown⟩, hall⟩ := h
    have hL := embL_sz_of (embT_sz d) ts hall
    have hnm : nm.size ≤ 1 := by
      simp only [ownM, Bool.and_eq_true] at hown
      have := hown.1.1.1
      split at this
      · simp only [isNm, Bool.and_eq_true, beq_iff_eq] at this
        omega
      · simp only [beq_iff_eq] at this
        omega
    by_cases h13 : k = 13 ∨ k = 14
    · have hlen : ts.length = 1 := by
        have hk13 : k = 13 := by omega
        subst hk13
        have : kidsM 13 = 1 := by decide
        simp only [beq_iff_eq] at hk
        omega
      match ts, hlen with
      | [u], _ =>
        rw [embT_cast h13 (by simp)]
        simp only [List.getElem_cons_zero]
        rw [List.all_cons, Bool.and_eq_true] at hall
        have := embT_sz d u hall.1
        simp only [cntD, sumL]
        omega
    · rw [embT_not h13]
      have a := emN_sz k (.mk k nm num (bty k) (.mk 0 []) 0 (embL ts))
      have b := emN_num k (.mk k nm num (bty k) (.mk 0 []) 0 (embL ts))
      have e1 : (Tm.mk k nm num (bty k) (.mk 0 []) 0 (embL ts)).sz = nm.size + 0 + 0 + ((embL ts).length + szML (embL ts)) := by
        simp only [Tm.sz, bty_cnt]
        simp [Ty.cnt, cntL]
      have e2 : (Tm.mk k nm num (bty k) (.mk 0 []) 0 (embL ts)).num = numL (embL ts) := by
        simp only [Tm.num, bty_cnt]
        simp [Ty.cnt, cntL]
      simp only [cntD]
      omega

/-- A term whose embedding is valid, too. -/
def emOk (t : Tm) : Bool := vldM t && vldM (embT t)
def noTm : Tm := .mk 0 ByteArray.empty 0 (.mk 0 []) (.mk 0 []) 0 []
def emT (t : Tm) : Tm := if emOk t = true then embT t else noTm

theorem embT_small {t : Tm} (h : vldM t = true) : (embT t).sz ≤ 89 ∧ (embT t).num ≤ 354 := by
  simp only [vldM, Bool.and_eq_true, decide_eq_true_eq] at h
  have := embT_sz 12 t h.1
  omega

theorem em_num (t : Tm) : (emT t).num ≤ 354 := by
  unfold emT emOk
  split
  · next h =>
    rw [Bool.and_eq_true] at h
    exact (embT_small h.1).2
  · simp [noTm, Tm.num, numL, Ty.cnt, cntL]

theorem shp_smallE : ∀ {d : Nat} {t : Ty}, shp d t = true → t.cnt + 2 ≤ 2 ^ (d + 1)
  | 0, _, h => by simp [shp] at h
  | d + 1, .mk k ts, h => by
    have hp : 0 < 2 ^ d := Nat.pow_pos (by omega)
    simp only [shp, Bool.and_eq_true, beq_iff_eq] at h
    obtain ⟨hk, hall⟩ := h
    have hlen : ts.length = 0 ∨ ts.length = 2 := by
      unfold kidsOf at hk
      split at hk
      · omega
      · split at hk
        · omega
        · omega
    match ts, hlen, hall with
    | [], _, _ =>
      simp only [Ty.cnt, cntL, List.length_nil, Nat.pow_succ]
      omega
    | [a, b], _, hall =>
      simp only [List.all_cons, List.all_nil, Bool.and_true, Bool.and_eq_true] at hall
      have h1 := shp_smallE hall.1
      have h2 := shp_smallE hall.2
      simp only [Ty.cnt, cntL, List.length_cons, List.length_nil, Nat.pow_succ] at *
      omega

theorem vldL_small_of {d : Nat} (h : ∀ t, shpM d t = true → ((t.sz : Int) + 1) ≤ 64 * cntD d t) : ∀ (ts : List Tm), ts.all (shpM d) = true → ((szML ts + ts.length : Nat) : Int) ≤ 64 * sumL (cntD d) ts
  | [], _ => by simp [szML, sumL]
  | t :: ts, ht => by
    rw [List.all_cons, Bool.and_eq_true] at ht
    have h1 := h t ht.1
    have h2 := vldL_small_of h ts ht.2
    simp only [szML, sumL, List.length_cons]
    omega

theorem vld_small_of : ∀ (d : Nat) (t : Tm), shpM d t = true → ((t.sz : Int) + 1) ≤ 64 * cntD d t
  | 0, _, h => by simp [shpM] at h
  | d + 1, .mk k nm num ty fr lb ts, h => by
    simp only [shpM, Bool.and_eq_true, bne_iff_ne, ne_eq] at h
    obtain ⟨⟨⟨hk, h14⟩, hown⟩, hall⟩ := h
    have hL := vldL_small_of (vld_small_of d) ts hall
    have e14 : (k == 14) = false := by simpa using h14
    simp only [ownM, e14, Bool.false_or, Bool.and_eq_true] at hown
    have hnm : nm.size ≤ 1 := by
      have := hown.1.1.1
      split at this
      · simp only [isNm, Bool.and_eq_true, beq_iff_eq] at this
        omega
      · simp only [beq_iff_eq] at this
        omega
    have zc : ∀ x : Ty, noTy x = true → x.cnt = 0 := fun x hx => by
      cases x with
      | mk kx tx =>
        simp only [noTy, Bool.and_eq_true, beq_iff_eq] at hx
        have : tx = [] := List.length_eq_zero_iff.1 hx.2
        subst this
        simp [Ty.cnt, cntL]
    have hty : ty.cnt ≤ 30 := by
      have := hown.1.1.2
      split at this
      · have := shp_smallE (d := 4) this
        omega
      · rw [zc ty this]; omega
    have hfr : fr.cnt = 0 := zc fr hown.1.2.1
    simp only [cntD, Tm.sz]
    omega

theorem vld_small {t : Tm} (h : vldM t = true) : t.sz ≤ 1919 := by
  simp only [vldM, Bool.and_eq_true, decide_eq_true_eq] at h
  have := vld_small_of 12 t h.1
  omega

theorem asT_sz (t : Tm) : (asT t).sz = t.sz + 1 := by
  simp only [asT, Tm.sz, szML, Ty.cnt, cntL, List.length_cons, List.length_nil]
  simp
  omega

/-- A term that may be given the unknown type. -/
def wrOk (t : Tm) : Bool := vldM t && vldM (asT t)
def wrT (t : Tm) : Tm := if wrOk t = true then asT t else noTm

theorem wr_num (t : Tm) : (wrT t).num ≤ t.num + 6 := by
  unfold wrT
  split
  · simp only [asT, Tm.num, numL, Ty.cnt, cntL]
    simp
    omega
  · simp [noTm, Tm.num, numL, Ty.cnt, cntL]
end Go.Proofs.YtdehhobpfaaboaaDoor

/- Values and steps of terms with casts, as plain functions. Steps of terms with casts, as plain functions; a step keeps a term well formed. How large a term with casts is, and what a step makes of it. -/
import Derived.Test.YtgekfnodmgkdaaaDoorCv
import Derived.Test.YtgekfnodmgkdaaaDoorGrd
import Derived.Test.YtgekfnodmgkdaaaDoorPkA
import Derived.Test.YtgekfnodmgkdaaaDoorPkF
namespace Go.Proofs.YtgekfnodmgkdaaaDoor
open Go.RowKit

def parts : Ty → List Ty
  | .mk _ ts => ts

def isG : Ty → Bool
  | .mk k ts => (k != 1) && ts.all (fun t => kindT t == 1)

/-- A cast that is a proxy of a kind. -/
def proxB (k : Int) (ty fr : Ty) (kk : Int) : Bool := k == 14 && (kindT fr == kk && kindT ty == kk)
def injB (k : Int) (ty fr : Ty) : Bool := k == 14 && (isG fr && kindT ty == 1)
def staysB (k : Int) (ty fr : Ty) : Bool := proxB k ty fr 4 || proxB k ty fr 5 || injB k ty fr

mutual
def isV : Tm → Bool
  | .mk k _ _ ty fr _ ts => if k = 2 ∨ k = 3 ∨ k = 4 ∨ k = 5 then true else if k = 10 then isVL ts else staysB k ty fr && isVL ts
def isVL : List Tm → Bool
  | [] => true
  | t :: ts => isV t && isVL ts
end

theorem tyEq_any {t : Ty} (h : wf t) : tyEq t (.mk 1 []) = (kindT t == 1) := by
  cases t with
  | mk k ts =>
    have h1 := (wf_mk h).1
    simp only [kindT, tyEq]
    by_cases hk : k = 1
    · subst hk
      have hz : kidsOf 1 = 0 := by simp [kidsOf]
      have : ts = [] := List.length_eq_zero_iff.1 (by omega)
      subst this
      simp [tyEqL]
    · simp [hk]

theorem tyEq_grdL : ∀ {ts : List Ty}, (∀ t ∈ ts, wf t) → tyEqL ts (grdL ts) = ts.all (fun t => kindT t == 1)
  | [], _ => by simp [grdL, tyEqL]
  | t :: ts, h => by
    have h1 := tyEq_any (h t (by simp))
    have h2 := tyEq_grdL (ts := ts) (fun t ht => h t (by simp [ht]))
    simp only [grdL, List.map_cons, tyEqL, List.all_cons] at *
    rw [h1, h2]

theorem isG_eq {t : Ty} (h : wf t) : isG t = ((kindT t != 1) && tyEq t (grd t)) := by
  cases t with
  | mk k ts =>
    have e : tyEq (.mk k ts) (.mk k (grdL ts)) = tyEqL ts (grdL ts) := by simp [tyEq]
    show (k != 1 && ts.all (fun t => kindT t == 1)) = (k != 1 && tyEq (.mk k ts) (.mk k (grdL ts)))
    rw [e, tyEq_grdL (wf_mk h).2]

end Go.Proofs.YtgekfnodmgkdaaaDoor

namespace Go.Proofs.YtgekfnodmgkdaaaDoor
open Go.RowKit

def zTy : Ty := .mk 0 []
def zT : Tm := .mk 0 ByteArray.empty 0 zTy zTy 0 []
def pt (t : Ty) (i : Nat) : Ty := (parts t).getD i zTy
def castT (e : Tm) (fr tg : Ty) (lb : Int) : Tm := .mk 14 ByteArray.empty 0 tg fr lb [e]
def nodeT (k : Int) (ts : List Tm) : Tm := .mk k ByteArray.empty 0 zTy zTy 0 ts
def numT (n : Int) : Tm := .mk 2 ByteArray.empty n zTy zTy 0 []
def thruT (v : Tm) (fr tg : Ty) (lb : Int) (g : Ty) : Tm := castT (castT v fr g lb) g tg lb

/-- What a step comes to: the term, the code, the label. -/
abbrev Rs := Tm × (Int × Int)
def tk (t : Tm) : Rs := (t, 1, 0)
def stuckR : Rs := (zT, 3, 0)

def appR : Tm → Tm → Rs
  | .mk k nm _ ty fr lb ts, v =>
    if k = 5 then tk (subT nm v (ts.getD 0 zT))
    else if proxB k ty fr 4 = true then tk (castT (nodeT 6 [ts.getD 0 zT, castT v (pt ty 0) (pt fr 0) (-lb)]) (pt fr 1) (pt ty 1) lb)
    else stuckR
def numR (k : Int) : Tm → Tm → Rs
  | .mk ka _ na _ _ _ _, .mk kb _ nb _ _ _ _ => if ka = 2 ∧ kb = 2 then (if k = 7 then tk (numT ((na + nb) % 1000)) else if na < nb then tk (nodeT 3 []) else tk (nodeT 4 [])) else stuckR
def ifR : Tm → Tm → Tm → Rs
  | .mk k _ _ _ _ _ _, a, b => if k = 3 then tk a else if k = 4 then tk b else stuckR
def partR (k : Int) : Tm → Rs
  | .mk kv _ _ ty fr lb ts =>
    if kv = 10 then tk (ts.getD (k - 11).toNat zT)
    else if proxB kv ty fr 5 = true then tk (castT (nodeT k [ts.getD 0 zT]) (pt fr (k - 11).toNat) (pt ty (k - 11).toNat) lb)
    else stuckR
def projR (ty : Ty) (lb : Int) : Tm → Rs
  | .mk kv _ _ tyv frv _ tsv => if injB kv tyv frv = true then (if kindT frv = kindT ty then tk (tsv.getD 0 zT) else (zT, 2, lb)) else stuckR
def castR (ty fr : Ty) (lb : Int) (v : Tm) : Rs :=
  if kindT fr = kindT ty then tk v
  else if kindT ty = 1 then tk (thruT v fr ty lb (grd fr))
  else if isG ty = false then tk (thruT v fr ty lb (grd ty))
  else projR ty lb v
def redR (k : Int) (ty fr : Ty) (lb : Int) (ts : List Tm) : Rs :=
  if k = 6 then appR (ts.getD 0 zT) (ts.getD 1 zT)
  else if k = 7 ∨ k = 8 then numR k (ts.getD 0 zT) (ts.getD 1 zT)
  else if k = 9 then ifR (ts.getD 0 zT) (ts.getD 1 zT) (ts.getD 2 zT)
  else if k = 11 ∨ k = 12 then partR k (ts.getD 0 zT)
  else if k = 14 then castR ty fr lb (ts.getD 0 zT)
  else stuckR

def cntd (k : Int) (n : Nat) : Nat := if k = 9 then 1 else n
/-- The place of the first term that is no value. -/
def nv : List Tm → Nat
  | [] => 0
  | t :: ts => if isV t then nv ts + 1 else 0

def stD : Nat → Tm → Rs
  | 0, _ => stuckR
  | d + 1, .mk k nm num ty fr lb ts =>
    if nv (ts.take (cntd k ts.length)) < cntd k ts.length then
      if (stD d (ts.getD (nv (ts.take (cntd k ts.length))) zT)).2.1 = 1 then tk (.mk k nm num ty fr lb (ts.set (nv (ts.take (cntd k ts.length))) (stD d (ts.getD (nv (ts.take (cntd k ts.length))) zT)).1))
      else stD d (ts.getD (nv (ts.take (cntd k ts.length))) zT)
    else redR k ty fr lb ts

def stepC (t : Tm) : Rs :=
  if vldC t = true then
    if isV t = true then (t, 0, 0)
    else if (stD 40 t).2.1 = 1 then (if vldC (stD 40 t).1 = true then stD 40 t else (zT, 4, 0))
    else stD 40 t
  else stuckR

/-- At most fuel steps: what they come to, and their number. -/
def evC : Nat → Tm → Rs × Nat
  | 0, t => if (stepC t).2.1 = 1 then ((zT, 5, 0), 0) else (stepC t, 0)
  | f + 1, t => if (stepC t).2.1 = 1 then ((evC f (stepC t).1).1, (evC f (stepC t).1).2 + 1) else (stepC t, 0)

/- Well formed at every node; depth; nodes. -/
def ndC (k : Int) (nm : ByteArray) (num : Int) (ty fr : Ty) (lb : Int) (n : Nat) : Bool := (kidsM k == (n : Int)) && (k != 13) && (if k = 14 then own4 nm num ty fr lb else ownM k nm num ty fr lb)

mutual
def okN : Tm → Bool
  | .mk k nm num ty fr lb ts => ndC k nm num ty fr lb ts.length && okNL ts
def okNL : List Tm → Bool
  | [] => true
  | t :: ts => okN t && okNL ts
end
mutual
def dps : Tm → Nat
  | .mk _ _ _ _ _ _ ts => dpsL ts + 1
def dpsL : List Tm → Nat
  | [] => 0
  | t :: ts => max (dps t) (dpsL ts)
end
mutual
def nds : Tm → Nat
  | .mk _ _ _ _ _ _ ts => ndsL ts + 1
def ndsL : List Tm → Nat
  | [] => 0
  | t :: ts => nds t + ndsL ts
end

theorem shpC_ok : ∀ (d : Nat) (t : Tm), shpC d t = (okN t && decide (dps t ≤ d))
  | 0, .mk k nm num ty fr lb ts => by simp [shpC, dps]
  | d + 1, .mk k nm num ty fr lb ts => by
    have hl : ∀ us : List Tm, us.all (shpC d) = (okNL us && decide (dpsL us ≤ d)) := by
      intro us
      induction us with
      | nil => simp [okNL, dpsL]
      | cons a bs ih =>
        rw [List.all_cons, ih, shpC_ok d a, Bool.eq_iff_iff]
        simp only [okNL, dpsL, Bool.and_eq_true, decide_eq_true_eq, Nat.max_le]
        constructor
        · rintro ⟨⟨p, q⟩, r, s⟩
          exact ⟨⟨p, r⟩, q, s⟩
        · rintro ⟨⟨p, r⟩, q, s⟩
          exact ⟨⟨p, q⟩, r, s⟩
    simp only [shpC, okN, dps, ndC]
    rw [hl]
    simp [Bool.and_assoc]

theorem cntD_nds : ∀ (d : Nat) (t : Tm), dps t ≤ d → cntD d t = (nds t : Int)
  | 0, .mk k nm num ty fr lb ts, h => by simp [dps] at h
  | d + 1, .mk k nm num ty fr lb ts, h => by
    have hl : ∀ us : List Tm, dpsL us ≤ d → sumL (cntD d) us = (ndsL us : Int) := by
      intro us
      induction us with
      | nil => intro _; simp [sumL, ndsL]
      | cons a bs ih =>
        intro h
        simp only [dpsL] at h
        simp only [sumL, ndsL]
        rw [ih (by omega), cntD_nds d a (by omega)]
        omega
    simp only [dps] at h
    simp only [cntD, nds]
    rw [hl ts (by omega)]
    omega

theorem vldC_ok (t : Tm) : vldC t = (okN t && (decide (dps t ≤ 40) && decide (nds t ≤ 200))) := by
  unfold vldC
  rw [shpC_ok]
  by_cases h : dps t ≤ 40
  · have hi : ((nds t : Int) ≤ 200) ↔ nds t ≤ 200 := by omega
    rw [cntD_nds 40 t h]
    simp [h, hi]
  · simp [h]

theorem shp_mono1 : ∀ (d : Nat) (t : Ty), shp d t = true → shp (d + 1) t = true
  | 0, _, h => by simp [shp] at h
  | d + 1, .mk k ts, h => by
    simp only [shp, Bool.and_eq_true, List.all_eq_true] at h ⊢
    exact ⟨h.1, fun t ht => by have := shp_mono1 d t (h.2 t ht); simpa only [shp] using this⟩

mutual
theorem cons_comm : ∀ t u : Ty, cons t u = cons u t
  | .mk k ts, .mk k' us => by
    simp only [cons]
    by_cases h1 : k = 1 ∨ k' = 1
    · rw [if_pos h1, if_pos (Or.comm.1 h1)]
    · rw [if_neg h1, if_neg (fun h => h1 (Or.comm.1 h))]
      by_cases hk : k = k'
      · subst hk
        rw [if_pos rfl, if_pos rfl]
        exact consL_comm ts us
      · rw [if_neg hk, if_neg (fun h => hk h.symm)]
theorem consL_comm : ∀ ts us : List Ty, consL ts us = consL us ts
  | [], [] => rfl
  | [], _ :: _ => by simp [consL]
  | _ :: _, [] => by simp [consL]
  | t :: ts, u :: us => by simp only [consL]; rw [cons_comm t u, consL_comm ts us]
end

/-- A valid type with two parts. -/
theorem vld_two {t : Ty} (h : vld t = true) (hk : kindT t = 4 ∨ kindT t = 5) : ∃ k x y, t = .mk k [x, y] ∧ vld x = true ∧ vld y = true ∧ pt t 0 = x ∧ pt t 1 = y := by
  cases t with
  | mk k ts =>
    simp only [kindT] at hk
    simp only [vld, shp, Bool.and_eq_true, beq_iff_eq, List.all_eq_true] at h
    have hl : ts.length = 2 := by
      have := h.1
      rcases hk with rfl | rfl <;> simp [kidsOf] at this <;> omega
    obtain ⟨x, y, rfl⟩ : ∃ x y, ts = [x, y] := by
      match ts, hl with
      | [x, y], _ => exact ⟨x, y, rfl⟩
    exact ⟨k, x, y, rfl, shp_mono1 3 x (by have := h.2 x (by simp); simpa only [shp] using this), shp_mono1 3 y (by have := h.2 y (by simp); simpa only [shp] using this), rfl, rfl⟩

theorem isLb_neg {lb : Int} (h : isLb lb = true) : isLb (-lb) = true := by
  unfold isLb at *
  simp only [Bool.and_eq_true, bne_iff_ne, ne_eq, decide_eq_true_eq] at *
  omega

theorem own4_mk {ty fr : Ty} {lb : Int} (hl : isLb lb = true) (h1 : vld ty = true) (h2 : vld fr = true) (h3 : cons fr ty = true) : own4 ByteArray.empty 0 ty fr lb = true := by
  have he : ByteArray.empty.toList.isEmpty = true := by rw [ByteArray.toList_eq]; rfl
  simp only [own4, hl, h1, h2, h3, he]
  rfl

theorem own4_out {nm : ByteArray} {num : Int} {ty fr : Ty} {lb : Int} (h : own4 nm num ty fr lb = true) : isLb lb = true ∧ vld ty = true ∧ vld fr = true ∧ cons fr ty = true := by
  simp only [own4, Bool.and_eq_true] at h
  exact ⟨h.1.1.1.2, h.1.1.2, h.1.2, h.2⟩

theorem ok_cast {e : Tm} {fr tg : Ty} {lb : Int} (he : okN e = true) (hl : isLb lb = true) (h1 : vld tg = true) (h2 : vld fr = true) (h3 : cons fr tg = true) : okN (castT e fr tg lb) = true := by
  simp only [castT, okN, ndC, okNL, he, if_pos, own4_mk hl h1 h2 h3]
  rfl

theorem own_leaf (k : Int) (num : Int) (h : (k = 2 ∧ 0 ≤ num ∧ num ≤ 999) ∨ (k ≠ 1 ∧ k ≠ 2 ∧ k ≠ 5 ∧ k ≠ 13 ∧ k ≠ 14 ∧ num = 0)) : ownM k ByteArray.empty num zTy zTy 0 = true := by
  rcases h with ⟨rfl, h1, h2⟩ | ⟨h1, h2, h5, h13, h14, rfl⟩
  · simp [ownM, h1, h2, zTy, noTy]
  · simp [ownM, h1, h2, h5, h13, h14, zTy, noTy]

theorem ok_node {k : Int} {ts : List Tm} (hk : kidsM k = (ts.length : Int)) (hn : k ≠ 1 ∧ k ≠ 2 ∧ k ≠ 5 ∧ k ≠ 13 ∧ k ≠ 14) (h : okNL ts = true) : okN (nodeT k ts) = true := by
  have h1 := own_leaf k 0 (.inr ⟨hn.1, hn.2.1, hn.2.2.1, hn.2.2.2.1, hn.2.2.2.2, rfl⟩)
  have h2 : (k != 13) = true := by simpa using hn.2.2.2.1
  have h3 : (kidsM k == (ts.length : Int)) = true := by simpa using hk
  simp only [nodeT, okN, ndC, h, if_neg hn.2.2.2.2, h1, h2, h3]
  rfl

theorem okNL_get : ∀ {ts : List Tm} {i : Nat}, okNL ts = true → i < ts.length → okN (ts.getD i zT) = true
  | t :: ts, 0, h, _ => by simp only [okNL, Bool.and_eq_true] at h; exact h.1
  | t :: ts, i + 1, h, hi => by
    simp only [okNL, Bool.and_eq_true] at h
    simpa using okNL_get (ts := ts) (i := i) h.2 (by simpa using hi)

theorem okNL_set : ∀ {ts : List Tm} {i : Nat} {u : Tm}, okNL ts = true → okN u = true → okNL (ts.set i u) = true
  | [], i, u, _, _ => by simp [okNL]
  | t :: ts, 0, u, h, hu => by
    simp only [okNL, List.set_cons_zero, Bool.and_eq_true] at h ⊢
    exact ⟨hu, h.2⟩
  | t :: ts, i + 1, u, h, hu => by
    simp only [okNL, List.set_cons_succ, Bool.and_eq_true] at h ⊢
    exact ⟨h.1, okNL_set h.2 hu⟩

mutual
theorem okN_sub (name : ByteArray) (u : Tm) (hu : okN u = true) : ∀ t : Tm, okN t = true → okN (subT name u t) = true
  | .mk k nm num ty fr lb ts, h => by
    rw [subT]
    split
    · exact hu
    · split
      · exact h
      · simp only [okN, Bool.and_eq_true] at h ⊢
        rw [subL_len]
        exact ⟨h.1, okN_subL name u hu ts h.2⟩
theorem okN_subL (name : ByteArray) (u : Tm) (hu : okN u = true) : ∀ ts : List Tm, okNL ts = true → okNL (subL name u ts) = true
  | [], _ => by simp [subL, okNL]
  | t :: ts, h => by
    simp only [okNL, subL, Bool.and_eq_true] at h ⊢
    exact ⟨okN_sub name u hu t h.1, okN_subL name u hu ts h.2⟩
end

theorem okN_kids {k : Int} {nm : ByteArray} {num : Int} {ty fr : Ty} {lb : Int} {ts : List Tm} (h : okN (.mk k nm num ty fr lb ts) = true) : kidsM k = (ts.length : Int) ∧ k ≠ 13 ∧ (if k = 14 then own4 nm num ty fr lb else ownM k nm num ty fr lb) = true ∧ okNL ts = true := by
  simp only [okN, ndC, Bool.and_eq_true, beq_iff_eq, bne_iff_ne, ne_eq] at h
  exact ⟨h.1.1.1, h.1.1.2, h.1.2, h.2⟩

theorem proxB_out {k : Int} {ty fr : Ty} {kk : Int} (h : proxB k ty fr kk = true) : k = 14 ∧ kindT fr = kk ∧ kindT ty = kk := by
  simpa only [proxB, Bool.and_eq_true, beq_iff_eq] using h

theorem cons_parts {fr ty : Ty} {kk : Int} (hk : kk = 4 ∨ kk = 5) (h1 : kindT fr = kk) (h2 : kindT ty = kk) (v1 : vld fr = true) (v2 : vld ty = true) (h : cons fr ty = true) : ∀ i, i < 2 → vld (pt fr i) = true ∧ vld (pt ty i) = true ∧ cons (pt fr i) (pt ty i) = true := by
  obtain ⟨k1, x1, y1, rfl, a1, b1, e1, e2⟩ := vld_two v1 (by rw [h1]; exact hk)
  obtain ⟨k2, x2, y2, rfl, a2, b2, e3, e4⟩ := vld_two v2 (by rw [h2]; exact hk)
  simp only [kindT] at h1 h2
  obtain rfl : k2 = k1 := by omega
  have hn : ¬ (k2 = 1 ∨ k2 = 1) := by omega
  simp only [cons, if_neg hn, if_true, consL, Bool.and_eq_true, and_true] at h
  intro i hi
  have : i = 0 ∨ i = 1 := by omega
  rcases this with rfl | rfl
  · rw [e1, e3]; exact ⟨a1, a2, h.1⟩
  · rw [e2, e4]; exact ⟨b1, b2, h.2⟩

theorem grd_vld {t : Ty} (h : vld t = true) : vld (grd t) = true := by
  cases t with
  | mk k ts =>
    simp only [vld, shp, Bool.and_eq_true, beq_iff_eq, List.all_eq_true] at h
    have hl : ((grdL ts).length : Int) = ts.length := by simp [grdL]
    have ha : (grdL ts).all (shp 3) = true := List.all_eq_true.2 fun t ht => by
      obtain ⟨u, -, rfl⟩ := List.mem_map.1 ht
      rfl
    show ((kidsOf k == ((grdL ts).length : Int)) && (grdL ts).all (shp 3)) = true
    rw [ha, hl, h.1]
    simp

theorem cons_grd (t : Ty) : cons t (grd t) = true := by
  cases t with
  | mk k ts =>
    have hl : ∀ us : List Ty, consL us (grdL us) = true := by
      intro us
      induction us with
      | nil => rfl
      | cons a bs ih =>
        show (cons a (.mk 1 []) && consL bs (grdL bs)) = true
        rw [ih, Bool.and_true]
        cases a with
        | mk k ts => simp [cons]
    simp only [grd, cons]
    split
    · rfl
    · simp [hl]

theorem cons_any {t u : Ty} (h : kindT u = 1) : cons t u = true := by
  cases t with
  | mk k ts => cases u with
    | mk k' us =>
      simp only [kindT] at h
      simp [cons, h]

theorem ok_thru {v : Tm} {fr ty g : Ty} {lb : Int} (hv : okN v = true) (hl : isLb lb = true) (h1 : vld ty = true) (h2 : vld fr = true) (hg : vld g = true) (c1 : cons fr g = true) (c2 : cons g ty = true) : okN (thruT v fr ty lb g) = true :=
  ok_cast (ok_cast hv hl hg h2 c1) hl h1 hg c2

theorem kids_two {k : Int} {ts : List Tm} (h : kidsM k = (ts.length : Int)) (hk : k = 6 ∨ k = 7 ∨ k = 8 ∨ k = 10) : ts.length = 2 := by
  rcases hk with rfl | rfl | rfl | rfl <;> simp [kidsM] at h <;> omega
theorem kids_one {k : Int} {ts : List Tm} (h : kidsM k = (ts.length : Int)) (hk : k = 5 ∨ k = 11 ∨ k = 12 ∨ k = 13 ∨ k = 14) : ts.length = 1 := by
  rcases hk with rfl | rfl | rfl | rfl | rfl <;> simp [kidsM] at h <;> omega
theorem kids_three {ts : List Tm} (h : kidsM 9 = (ts.length : Int)) : ts.length = 3 := by
  simp [kidsM] at h
  omega

theorem num_rng {nm : ByteArray} {num : Int} {ty fr : Ty} {lb : Int} {ts : List Tm} (h : okN (.mk 2 nm num ty fr lb ts) = true) : 0 ≤ num ∧ num ≤ 999 := by
  have := (okN_kids h).2.2.1
  simp only [if_neg (show ¬ (2 : Int) = 14 by omega), ownM, Bool.and_eq_true, if_true, decide_eq_true_eq] at this
  exact this.2

/-- A rule's result is well formed. -/
theorem red_ok {k : Int} {nm : ByteArray} {num : Int} {ty fr : Ty} {lb : Int} {ts : List Tm} (h : okN (.mk k nm num ty fr lb ts) = true) (h1 : (redR k ty fr lb ts).2.1 = 1) : okN (redR k ty fr lb ts).1 = true := by
  obtain ⟨hk, h13, hown, hts⟩ := okN_kids h
  unfold redR at *
  by_cases k6 : k = 6
  · rw [if_pos k6] at *
    have hl := kids_two hk (.inl k6)
    have o1 := okNL_get (i := 0) hts (by omega)
    have o2 := okNL_get (i := 1) hts (by omega)
    generalize ts.getD 0 zT = f at *
    generalize ts.getD 1 zT = v at *
    obtain ⟨fk, fnm, fnum, fty, ffr, flb, fts⟩ := f
    obtain ⟨gk, g13, gown, gts⟩ := okN_kids o1
    simp only [appR] at *
    split
    · rename_i h5
      have := kids_one gk (.inl h5)
      exact okN_sub _ _ o2 _ (okNL_get gts (by omega))
    · rename_i h5
      rw [if_neg h5] at h1
      split
      · rename_i hp
        obtain ⟨p1, p2, p3⟩ := proxB_out hp
        rw [if_pos p1] at gown
        obtain ⟨q1, q2, q3, q4⟩ := own4_out gown
        have := kids_one gk (.inr (.inr (.inr (.inr p1))))
        obtain ⟨r1, r2, r3⟩ := cons_parts (.inl rfl) p2 p3 q3 q2 q4 0 (by omega)
        obtain ⟨s1, s2, s3⟩ := cons_parts (.inl rfl) p2 p3 q3 q2 q4 1 (by omega)
        refine ok_cast (ok_node (by simp [kidsM]) (by omega) ?_) q1 s2 s1 s3
        simp only [okNL, okNL_get gts (show 0 < fts.length by omega), ok_cast o2 (isLb_neg q1) r1 r2 (by rw [cons_comm]; exact r3)]
        rfl
      · rename_i hp
        rw [if_neg hp] at h1
        simp [stuckR] at h1
  rw [if_neg k6] at *
  by_cases k7 : k = 7 ∨ k = 8
  · rw [if_pos k7] at *
    have hl := kids_two hk (by omega)
    have o1 := okNL_get (i := 0) hts (by omega)
    have o2 := okNL_get (i := 1) hts (by omega)
    generalize ts.getD 0 zT = f at *
    generalize ts.getD 1 zT = v at *
    obtain ⟨fk, fnm, fnum, fty, ffr, flb, fts⟩ := f
    obtain ⟨vk, vnm, vnum, vty, vfr, vlb, vts⟩ := v
    simp only [numR] at *
    split
    · rename_i h2
      obtain ⟨rfl, rfl⟩ := h2
      have a1 := num_rng o1
      have a2 := num_rng o2
      split
      · have := own_leaf 2 ((fnum + vnum) % 1000) (.inl ⟨rfl, by omega, by omega⟩)
        simp only [tk, numT, okN, ndC, okNL, if_neg (show ¬ (2 : Int) = 14 by omega), this]
        rfl
      · split
        · exact ok_node rfl (by omega) rfl
        · exact ok_node rfl (by omega) rfl
    · rename_i h2
      rw [if_neg h2] at h1
      simp [stuckR] at h1
  rw [if_neg k7] at *
  by_cases k9 : k = 9
  · rw [if_pos k9] at *
    subst k9
    have hl := kids_three hk
    have o1 := okNL_get (i := 1) hts (by omega)
    have o2 := okNL_get (i := 2) hts (by omega)
    generalize ts.getD 0 zT = f at *
    obtain ⟨fk, fnm, fnum, fty, ffr, flb, fts⟩ := f
    simp only [ifR] at *
    split
    · exact o1
    · rename_i h3
      rw [if_neg h3] at h1
      split
      · exact o2
      · rename_i h4
        rw [if_neg h4] at h1
        simp [stuckR] at h1
  rw [if_neg k9] at *
  by_cases k11 : k = 11 ∨ k = 12
  · rw [if_pos k11] at *
    have hl := kids_one hk (by omega)
    have o1 := okNL_get (i := 0) hts (by omega)
    generalize ts.getD 0 zT = f at *
    obtain ⟨fk, fnm, fnum, fty, ffr, flb, fts⟩ := f
    obtain ⟨gk, g13, gown, gts⟩ := okN_kids o1
    simp only [partR] at *
    split
    · rename_i h10
      have := kids_two gk (by omega)
      exact okNL_get gts (by omega)
    · rename_i h10
      rw [if_neg h10] at h1
      split
      · rename_i hp
        obtain ⟨p1, p2, p3⟩ := proxB_out hp
        rw [if_pos p1] at gown
        obtain ⟨q1, q2, q3, q4⟩ := own4_out gown
        have := kids_one gk (.inr (.inr (.inr (.inr p1))))
        obtain ⟨r1, r2, r3⟩ := cons_parts (.inr rfl) p2 p3 q3 q2 q4 (k - 11).toNat (by omega)
        refine ok_cast (ok_node ?_ (by omega) ?_) q1 r2 r1 r3
        · rcases k11 with rfl | rfl <;> simp [kidsM]
        · simp only [okNL, okNL_get gts (show 0 < fts.length by omega)]
          rfl
      · rename_i hp
        rw [if_neg hp] at h1
        simp [stuckR] at h1
  rw [if_neg k11] at *
  by_cases k14 : k = 14
  · rw [if_pos k14] at *
    have hl := kids_one hk (by omega)
    have o1 := okNL_get (i := 0) hts (by omega)
    generalize ts.getD 0 zT = v at *
    obtain ⟨q1, q2, q3, q4⟩ := own4_out hown
    simp only [castR] at *
    split
    · exact o1
    · rename_i e1
      rw [if_neg e1] at h1
      split
      · rename_i e2
        exact ok_thru o1 q1 q2 q3 (grd_vld q3) (cons_grd _) (cons_any e2)
      · rename_i e2
        rw [if_neg e2] at h1
        split
        · rename_i e3
          have hfr : kindT fr = 1 := by
            obtain ⟨a, xs, rfl⟩ := fr.shape
            obtain ⟨b, ys, rfl⟩ := ty.shape
            simp only [kindT] at *
            simp only [cons] at q4
            by_cases ha : a = 1
            · exact ha
            · rw [if_neg (by omega), if_neg e1] at q4
              cases q4
          exact ok_thru o1 q1 q2 q3 (grd_vld q2) (by rw [cons_comm]; exact cons_any hfr) (by rw [cons_comm]; exact cons_grd _)
        · rename_i e3
          rw [if_neg e3] at h1
          obtain ⟨vk, vnm, vnum, vty, vfr, vlb, vts⟩ := v
          obtain ⟨gk, g13, gown, gts⟩ := okN_kids o1
          simp only [projR] at *
          split
          · rename_i e4
            rw [if_pos e4] at h1
            simp only [injB, Bool.and_eq_true, beq_iff_eq] at e4
            split
            · have := kids_one gk (.inr (.inr (.inr (.inr e4.1))))
              exact okNL_get gts (by omega)
            · rename_i e5
              rw [if_neg e5] at h1
              simp at h1
          · rename_i e4
            rw [if_neg e4] at h1
            simp [stuckR] at h1
  rw [if_neg k14] at *
  simp [stuckR] at h1

theorem nv_lt : ∀ {ts : List Tm} {n : Nat}, nv (ts.take n) < n → n ≤ ts.length → nv (ts.take n) < ts.length ∧ isV (ts.getD (nv (ts.take n)) zT) = false
  | [], n, h, hn => by simp at hn; omega
  | t :: ts, 0, h, _ => by omega
  | t :: ts, n + 1, h, hn => by
    simp only [List.take_succ_cons, nv] at h ⊢
    by_cases hv : isV t = true
    · rw [if_pos hv] at h ⊢
      obtain ⟨a, b⟩ := nv_lt (ts := ts) (n := n) (by omega) (by simpa using hn)
      exact ⟨by simp; omega, by simpa using b⟩
    · rw [if_neg hv] at h ⊢
      exact ⟨by simp, by simpa using hv⟩

theorem cntd_le {k : Int} {ts : List Tm} (h : kidsM k = (ts.length : Int)) : cntd k ts.length ≤ ts.length := by
  unfold cntd
  split
  · rename_i h9
    subst h9
    have := kids_three h
    omega
  · omega

/-- A step keeps a term well formed. -/
theorem st_ok : ∀ (d : Nat) (t : Tm), okN t = true → (stD d t).2.1 = 1 → okN (stD d t).1 = true
  | 0, _, _, h => by simp [stD, stuckR] at h
  | d + 1, .mk k nm num ty fr lb ts, hok, h => by
    obtain ⟨hk, h13, hown, hts⟩ := okN_kids hok
    have hle := cntd_le hk
    rw [stD] at h ⊢
    split
    · rename_i hi
      rw [if_pos hi] at h
      obtain ⟨hj, -⟩ := nv_lt hi hle
      have ih := st_ok d _ (okNL_get hts hj)
      generalize nv (ts.take (cntd k ts.length)) = i at *
      split
      · rename_i h1
        have := okNL_set (i := i) hts (ih h1)
        simp only [tk, okN, ndC, List.length_set, this]
        simp only [okN, ndC, Bool.and_eq_true] at hok
        simp only [Bool.and_true, Bool.and_eq_true]
        exact hok.1
      · rename_i h1
        rw [if_neg h1] at h
        exact absurd h h1
    · rename_i hi
      rw [if_neg hi] at h
      exact red_ok hok h

def rsOk (r : Rs) : Prop := r = stuckR ∨ (∃ l, r = (zT, 2, l)) ∨ ∃ t, r = tk t

theorem red_zero (k : Int) (ty fr : Ty) (lb : Int) (ts : List Tm) (h : (redR k ty fr lb ts).2.1 ≠ 1) : (redR k ty fr lb ts).1 = zT := by
  have key : ∀ r : Rs, rsOk r → r.2.1 ≠ 1 → r.1 = zT := by
    rintro r (rfl | ⟨l, rfl⟩ | ⟨t, rfl⟩) h
    · rfl
    · rfl
    · exact absurd rfl h
  refine key _ ?_ h
  unfold redR
  generalize ts.getD 0 zT = a
  generalize ts.getD 1 zT = b
  generalize ts.getD 2 zT = c
  obtain ⟨ak, anm, anum, aty, afr, alb, ats⟩ := a
  obtain ⟨bk, bnm, bnum, bty, bfr, blb, bts⟩ := b
  simp only [appR, numR, ifR, partR, castR, projR]
  repeat' split
  all_goals first
    | exact .inl rfl
    | exact .inr (.inr ⟨_, rfl⟩)
    | exact .inr (.inl ⟨_, rfl⟩)

theorem st_zero : ∀ (d : Nat) (t : Tm), (stD d t).2.1 ≠ 1 → (stD d t).1 = zT
  | 0, _, _ => rfl
  | d + 1, .mk k nm num ty fr lb ts, h => by
    rw [stD] at h ⊢
    split
    · rename_i hi
      rw [if_pos hi] at h
      have ih := st_zero d (ts.getD (nv (ts.take (cntd k ts.length))) zT)
      split
      · rename_i h1
        rw [if_pos h1] at h
        exact absurd rfl h
      · rename_i h1
        exact ih h1
    · rename_i hi
      rw [if_neg hi] at h
      exact red_zero _ _ _ _ _ h

end Go.Proofs.YtgekfnodmgkdaaaDoor

namespace Go.Proofs.YtgekfnodmgkdaaaDoor
open Go.RowKit

theorem own_szC {k : Int} {nm : ByteArray} {num : Int} {ty fr : Ty} {lb : Int} (h : (if k = 14 then own4 nm num ty fr lb else ownM k nm num ty fr lb) = true) : nm.size ≤ 1 ∧ ty.cnt ≤ 30 ∧ fr.cnt ≤ 30 := by
  split at h
  · obtain ⟨-, h1, h2, -⟩ := own4_out h
    have hz : nm.size = 0 := by
      simp only [own4, Bool.and_eq_true] at h
      have := h.1.1.1.1.1
      rw [ByteArray.toList_eq] at this
      have hd : nm.data = #[] := Array.toList_inj.1 (List.isEmpty_iff.1 this)
      show nm.data.size = 0
      rw [hd]
      rfl
    exact ⟨by omega, vld_cnt h1, vld_cnt h2⟩
  · rename_i h14
    obtain ⟨a, b, c⟩ := own_sz h (by simpa using h14)
    exact ⟨a, b, by omega⟩

theorem kids_le (k : Int) : kidsM k ≤ 3 := by
  unfold kidsM
  repeat' split
  all_goals omega

mutual
theorem ok_sz : ∀ t : Tm, okN t = true → t.sz + 1 ≤ 65 * nds t
  | .mk k nm num ty fr lb ts, h => by
    obtain ⟨hk, h13, hown, hts⟩ := okN_kids h
    obtain ⟨z1, z2, z3⟩ := own_szC hown
    have h3 := kids_le k
    have := ok_szL ts hts
    simp only [Tm.sz, nds]
    omega
theorem ok_szL : ∀ ts : List Tm, okNL ts = true → szML ts ≤ 65 * ndsL ts
  | [], _ => by simp [szML, ndsL]
  | t :: ts, h => by
    simp only [okNL, Bool.and_eq_true] at h
    have := ok_sz t h.1
    have := ok_szL ts h.2
    simp only [szML, ndsL]
    omega
end

mutual
theorem sub_szC (name : ByteArray) (u : Tm) : ∀ t : Tm, okN t = true → (subT name u t).sz + 1 ≤ (65 + u.sz) * nds t
  | .mk k nm num ty fr lb ts, h => by
    obtain ⟨hk, h13, hown, hts⟩ := okN_kids h
    obtain ⟨z1, z2, z3⟩ := own_szC hown
    have h3 := kids_le k
    have hm : (65 + u.sz) * 1 ≤ (65 + u.sz) * nds (.mk k nm num ty fr lb ts) := Nat.mul_le_mul_left _ (by simp only [nds]; omega)
    have hs := ok_sz _ h
    rw [subT]
    split
    · omega
    · split
      · have hm2 : 65 * nds (.mk k nm num ty fr lb ts) ≤ (65 + u.sz) * nds (.mk k nm num ty fr lb ts) := Nat.mul_le_mul_right _ (by omega)
        omega
      · have := sub_szCL name u ts hts
        simp only [Tm.sz, nds, Nat.mul_add, subL_len] at *
        omega
theorem sub_szCL (name : ByteArray) (u : Tm) : ∀ ts : List Tm, okNL ts = true → szML (subL name u ts) ≤ (65 + u.sz) * ndsL ts
  | [], _ => by simp [szML, subL]
  | t :: ts, h => by
    simp only [okNL, Bool.and_eq_true] at h
    have := sub_szC name u t h.1
    have := sub_szCL name u ts h.2
    simp only [szML, ndsL, subL, Nat.mul_add]
    omega
end

theorem prod_le {a b : Nat} (h : a + b ≤ 199) : a * b ≤ 9900 := by
  have h1 : ∀ a : Nat, a < 200 → a * (199 - a) ≤ 9900 := by decide +kernel
  have h2 := h1 a (by omega)
  have h3 : a * b ≤ a * (199 - a) := Nat.mul_le_mul_left _ (by omega)
  omega

theorem nds_get : ∀ {ts : List Tm} {i : Nat}, i < ts.length → nds (ts.getD i zT) ≤ ndsL ts
  | t :: ts, 0, _ => by simp [ndsL]
  | t :: ts, i + 1, h => by
    have := nds_get (ts := ts) (i := i) (by simpa using h)
    simp only [List.getD_cons_succ, ndsL]
    omega

theorem nds_two {ts : List Tm} (h : ts.length = 2) : ndsL ts = nds (ts.getD 0 zT) + nds (ts.getD 1 zT) := by
  match ts, h with
  | [a, b], _ => simp [ndsL]

theorem szL_set : ∀ {ts : List Tm} {i : Nat} {u : Tm}, i < ts.length → szML (ts.set i u) + (ts.getD i zT).sz = szML ts + u.sz
  | t :: ts, 0, u, _ => by simp [szML]; omega
  | t :: ts, i + 1, u, h => by
    have := szL_set (ts := ts) (i := i) (u := u) (by simpa using h)
    simp only [List.set_cons_succ, List.getD_cons_succ, szML]
    omega

theorem okNL_sz_set : ∀ {ts : List Tm} {i : Nat} {u : Tm} {B : Nat}, okNL ts = true → i < ts.length → u.sz ≤ B + 65 * nds (ts.getD i zT) → szML (ts.set i u) ≤ B + 65 * ndsL ts
  | t :: ts, 0, u, B, h, _, hu => by
    simp only [okNL, Bool.and_eq_true] at h
    have := ok_szL ts h.2
    simp only [List.set_cons_zero, szML, ndsL, List.getD_cons_zero] at *
    omega
  | t :: ts, i + 1, u, B, h, hi, hu => by
    simp only [okNL, Bool.and_eq_true] at h
    have := ok_sz t h.1
    have := okNL_sz_set (ts := ts) (i := i) (u := u) (B := B) h.2 (by simpa using hi) (by simpa using hu)
    simp only [List.set_cons_succ, szML, ndsL] at *
    omega

theorem castT_sz {e : Tm} {fr tg : Ty} {lb : Int} : (castT e fr tg lb).sz = tg.cnt + fr.cnt + (1 + e.sz) := by
  simp [castT, Tm.sz, szML]

theorem nodeT_sz {k : Int} {ts : List Tm} : (nodeT k ts).sz = ts.length + szML ts := by
  simp [nodeT, Tm.sz, zTy, Ty.cnt, cntL]

theorem zT_sz : zT.sz = 0 := by simp [zT, Tm.sz, zTy, Ty.cnt, cntL, szML]

theorem grd_cnt30 {t : Ty} (h : vld t = true) : (grd t).cnt ≤ 30 := vld_cnt (grd_vld h)

theorem red_sz {k : Int} {nm : ByteArray} {num : Int} {ty fr : Ty} {lb : Int} {ts : List Tm} (h : okN (.mk k nm num ty fr lb ts) = true) (hn : ndsL ts ≤ 199) : (redR k ty fr lb ts).1.sz ≤ 650000 + 65 * ndsL ts := by
  obtain ⟨hk, h13, hown, hts⟩ := okN_kids h
  have key : ∀ r : Rs, r.1.sz ≤ 650000 + 65 * ndsL ts → r.1.sz ≤ 650000 + 65 * ndsL ts := fun _ h => h
  have hst : stuckR.1.sz ≤ 650000 + 65 * ndsL ts := by simp only [stuckR, zT_sz]; omega
  unfold redR
  by_cases k6 : k = 6
  · rw [if_pos k6]
    have hl := kids_two hk (.inl k6)
    have o1 := okNL_get (i := 0) hts (by omega)
    have o2 := okNL_get (i := 1) hts (by omega)
    have h12 := nds_two hl
    generalize ts.getD 0 zT = f at *
    generalize ts.getD 1 zT = v at *
    have s2 := ok_sz _ o2
    have s1 := ok_sz _ o1
    obtain ⟨fk, fnm, fnum, fty, ffr, flb, fts⟩ := f
    obtain ⟨gk, g13, gown, gts⟩ := okN_kids o1
    simp only [appR]
    split
    · rename_i h5
      have hfl := kids_one gk (.inl h5)
      have hb := okNL_get (i := 0) gts (by omega)
      have hb2 := sub_szC fnm v _ hb
      have hb3 := nds_get (ts := fts) (i := 0) (by omega)
      simp only [tk]
      generalize fts.getD 0 zT = body at *
      simp only [nds] at h12
      have p1 : nds body * (nds v + 1) ≤ 9900 := prod_le (by omega)
      have p2 : (65 + v.sz) * nds body ≤ (65 * (nds v + 1)) * nds body := Nat.mul_le_mul_right _ (by omega)
      have p3 : (65 * (nds v + 1)) * nds body = 65 * (nds body * (nds v + 1)) := by rw [Nat.mul_assoc, Nat.mul_comm (nds v + 1)]
      omega
    · split
      · rename_i hp
        obtain ⟨q1, q2, q3⟩ := proxB_out hp
        rw [if_pos q1] at gown
        obtain ⟨w1, w2, w3, w4⟩ := own4_out gown
        have hfl := kids_one gk (.inr (.inr (.inr (.inr q1))))
        obtain ⟨r1, r2, -⟩ := cons_parts (.inl rfl) q2 q3 w3 w2 w4 0 (by omega)
        obtain ⟨t1, t2, -⟩ := cons_parts (.inl rfl) q2 q3 w3 w2 w4 1 (by omega)
        have e1 := vld_cnt r1
        have e2 := vld_cnt r2
        have e3 := vld_cnt t1
        have e4 := vld_cnt t2
        have hb := ok_sz _ (okNL_get (i := 0) gts (by omega))
        have hb3 := nds_get (ts := fts) (i := 0) (by omega)
        simp only [tk, castT_sz, nodeT_sz, szML, List.length_cons, List.length_nil]
        simp only [nds] at h12
        omega
      · exact hst
  rw [if_neg k6]
  by_cases k7 : k = 7 ∨ k = 8
  · rw [if_pos k7]
    generalize ts.getD 0 zT = f at *
    generalize ts.getD 1 zT = v at *
    obtain ⟨fk, fnm, fnum, fty, ffr, flb, fts⟩ := f
    obtain ⟨vk, vnm, vnum, vty, vfr, vlb, vts⟩ := v
    simp only [numR]
    split
    · split
      · simp only [tk, numT, Tm.sz, zTy, Ty.cnt, cntL, szML, List.length_nil]
        have : ByteArray.empty.size = 0 := rfl
        omega
      · split
        · simp only [tk, nodeT_sz, szML, List.length_nil]
          omega
        · simp only [tk, nodeT_sz, szML, List.length_nil]
          omega
    · exact hst
  rw [if_neg k7]
  by_cases k9 : k = 9
  · rw [if_pos k9]
    subst k9
    have hl := kids_three hk
    have o1 := ok_sz _ (okNL_get (i := 1) hts (by omega))
    have o2 := ok_sz _ (okNL_get (i := 2) hts (by omega))
    have n1 := nds_get (ts := ts) (i := 1) (by omega)
    have n2 := nds_get (ts := ts) (i := 2) (by omega)
    generalize ts.getD 0 zT = f at *
    obtain ⟨fk, fnm, fnum, fty, ffr, flb, fts⟩ := f
    simp only [ifR]
    split
    · simp only [tk]; omega
    · split
      · simp only [tk]; omega
      · exact hst
  rw [if_neg k9]
  by_cases k11 : k = 11 ∨ k = 12
  · rw [if_pos k11]
    have hl := kids_one hk (by omega)
    have o1 := okNL_get (i := 0) hts (by omega)
    have n1 := nds_get (ts := ts) (i := 0) (by omega)
    generalize ts.getD 0 zT = f at *
    obtain ⟨fk, fnm, fnum, fty, ffr, flb, fts⟩ := f
    obtain ⟨gk, g13, gown, gts⟩ := okN_kids o1
    simp only [nds] at n1
    simp only [partR]
    split
    · rename_i h10
      have hfl := kids_two gk (by omega)
      have hb := ok_sz _ (okNL_get (i := (k - 11).toNat) gts (by omega))
      have hb3 := nds_get (ts := fts) (i := (k - 11).toNat) (by omega)
      simp only [tk]
      omega
    · split
      · rename_i hp
        obtain ⟨q1, q2, q3⟩ := proxB_out hp
        rw [if_pos q1] at gown
        obtain ⟨w1, w2, w3, w4⟩ := own4_out gown
        have hfl := kids_one gk (.inr (.inr (.inr (.inr q1))))
        obtain ⟨r1, r2, -⟩ := cons_parts (.inr rfl) q2 q3 w3 w2 w4 (k - 11).toNat (by omega)
        have e1 := vld_cnt r1
        have e2 := vld_cnt r2
        have hb := ok_sz _ (okNL_get (i := 0) gts (by omega))
        have hb3 := nds_get (ts := fts) (i := 0) (by omega)
        simp only [tk, castT_sz, nodeT_sz, szML, List.length_cons, List.length_nil]
        omega
      · exact hst
  rw [if_neg k11]
  by_cases k14 : k = 14
  · rw [if_pos k14]
    have hl := kids_one hk (by omega)
    have o1 := okNL_get (i := 0) hts (by omega)
    have n1 := nds_get (ts := ts) (i := 0) (by omega)
    generalize ts.getD 0 zT = v at *
    rw [if_pos k14] at hown
    obtain ⟨q1, q2, q3, q4⟩ := own4_out hown
    have s1 := ok_sz _ o1
    have e1 := vld_cnt q2
    have e2 := vld_cnt q3
    have e3 := grd_cnt30 q2
    have e4 := grd_cnt30 q3
    simp only [castR]
    split
    · simp only [tk]; omega
    · split
      · simp only [tk, thruT, castT_sz]; omega
      · split
        · simp only [tk, thruT, castT_sz]; omega
        · obtain ⟨vk, vnm, vnum, vty, vfr, vlb, vts⟩ := v
          obtain ⟨gk, g13, gown, gts⟩ := okN_kids o1
          simp only [projR]
          split
          · rename_i e4
            simp only [injB, Bool.and_eq_true, beq_iff_eq] at e4
            have hfl := kids_one gk (.inr (.inr (.inr (.inr e4.1))))
            have hb := ok_sz _ (okNL_get (i := 0) gts (by omega))
            have hb3 := nds_get (ts := vts) (i := 0) (by omega)
            simp only [nds] at n1
            split
            · simp only [tk]; omega
            · simp only [zT_sz]; omega
          · exact hst
  rw [if_neg k14]
  exact hst

theorem st_sz : ∀ (d : Nat) (t : Tm), okN t = true → nds t ≤ 200 → (stD d t).1.sz ≤ 650000 + 65 * nds t
  | 0, _, _, _ => by simp only [stD, stuckR, zT_sz]; omega
  | d + 1, .mk k nm num ty fr lb ts, hok, hn => by
    obtain ⟨hk, h13, hown, hts⟩ := okN_kids hok
    have hle := cntd_le hk
    simp only [nds] at hn ⊢
    rw [stD]
    split
    · rename_i hi
      obtain ⟨hj, -⟩ := nv_lt hi hle
      have hnd := nds_get (ts := ts) hj
      have ih := st_sz d _ (okNL_get hts hj) (by omega)
      generalize nv (ts.take (cntd k ts.length)) = i at *
      split
      · have := okNL_sz_set hts hj ih
        obtain ⟨z1, z2, z3⟩ := own_szC hown
        have h3 := kids_le k
        simp only [tk, Tm.sz, List.length_set]
        omega
      · omega
    · have := red_sz hok (by omega)
      omega

theorem vldC_out {t : Tm} (h : vldC t = true) : okN t = true ∧ dps t ≤ 40 ∧ nds t ≤ 200 := by
  rw [vldC_ok] at h
  simpa only [Bool.and_eq_true, decide_eq_true_eq] using h

theorem vldC_sz {t : Tm} (h : vldC t = true) : t.sz ≤ 13000 := by
  obtain ⟨h1, -, h2⟩ := vldC_out h
  have := ok_sz t h1
  omega

theorem stC_sz {t : Tm} (h : vldC t = true) : (stD 40 t).1.sz ≤ 700000 := by
  obtain ⟨h1, -, h2⟩ := vldC_out h
  have := st_sz 40 t h1 h2
  omega

mutual
theorem okN_okT : ∀ t : Tm, okN t = true → okT t
  | .mk k nm num ty fr lb ts, h => by
    obtain ⟨hk, h13, hown, hts⟩ := okN_kids h
    simp only [okT]
    refine ⟨?_, ?_, okNL_okL ts hts⟩
    · split at hown
      · exact .inl (wf_of_vld (own4_out hown).2.1)
      · rename_i h14
        have e14 : (k == 14) = false := by simpa using h14
        simp only [ownM, e14, Bool.false_or, Bool.and_eq_true, beq_iff_eq] at hown
        obtain ⟨⟨⟨-, hty⟩, -⟩, -⟩ := hown
        split at hty
        · exact .inl (wf_of_vld hty)
        · exact .inr hty
    · split at hown
      · exact .inl (wf_of_vld (own4_out hown).2.2.1)
      · rename_i h14
        have e14 : (k == 14) = false := by simpa using h14
        simp only [ownM, e14, Bool.false_or, Bool.and_eq_true, beq_iff_eq] at hown
        obtain ⟨⟨-, hfr, -⟩, -⟩ := hown
        exact .inr hfr
theorem okNL_okL : ∀ ts : List Tm, okNL ts = true → okL ts
  | [], _ => by simp [okL]
  | t :: ts, h => by
    simp only [okNL, Bool.and_eq_true] at h
    simp only [okL]
    exact ⟨okN_okT t h.1, okNL_okL ts h.2⟩
end

theorem zT_ok : okT zT := by
  simp only [zT, okT, okL]
  exact ⟨.inr rfl, .inr rfl, trivial⟩

/-- What the program tests behind a step. -/
def stepI (t : Tm) : Rs :=
  if isV t = true then (t, 0, 0)
  else if 200 < nds (stD 40 t).1 ∨ 40 < dps (stD 40 t).1 then (zT, 4, 0) else stD 40 t

theorem stepI_eq {t : Tm} (h : vldC t = true) : stepI t = stepC t := by
  obtain ⟨h1, h2, h3⟩ := vldC_out h
  unfold stepI stepC
  rw [if_pos h]
  by_cases hv : isV t = true
  · rw [if_pos hv, if_pos hv]
  rw [if_neg hv, if_neg hv]
  by_cases hc : (stD 40 t).2.1 = 1
  · have ho := st_ok 40 t h1 hc
    rw [if_pos hc, vldC_ok, ho]
    by_cases ha : 200 < nds (stD 40 t).1 ∨ 40 < dps (stD 40 t).1
    · rw [if_pos ha, if_neg]
      simp
      omega
    · rw [if_neg ha, if_pos]
      simp
      omega
  · have hz := st_zero 40 t hc
    rw [if_neg hc, hz, if_neg]
    simp [zT, nds, ndsL, dps, dpsL]

theorem stepC_ok {t : Tm} (h1 : (stepC t).2.1 = 1) : vldC (stepC t).1 = true := by
  unfold stepC at *
  split
  · rename_i hv
    rw [if_pos hv] at h1
    split
    · rename_i hv2
      rw [if_pos hv2] at h1
      simp at h1
    · rename_i hv2
      rw [if_neg hv2] at h1
      split
      · rename_i h3
        rw [if_pos h3] at h1
        split
        · rename_i h4
          exact h4
        · rename_i h4
          rw [if_neg h4] at h1
          simp at h1
      · rename_i h3
        rw [if_neg h3] at h1
        exact absurd h1 h3
  · rename_i hv
    rw [if_neg hv] at h1
    simp [stuckR] at h1

end Go.Proofs.YtgekfnodmgkdaaaDoor

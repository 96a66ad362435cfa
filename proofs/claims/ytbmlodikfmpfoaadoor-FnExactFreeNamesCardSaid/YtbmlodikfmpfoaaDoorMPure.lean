/- The document's chapter 2 as plain functions on terms: shape and nodes. -/
import Derived.Test.YtbmlodikfmpfoaaDoorTmB
import Derived.Test.YtbmlodikfmpfoaaDoorShape
namespace Go.Proofs.YtbmlodikfmpfoaaDoor
open Go.RowKit

/-- How many operands a kind of terms has; -1: there is no such kind. -/
def kidsM (k : Int) : Int :=
  if k = 1 ∨ k = 2 ∨ k = 3 ∨ k = 4 then 0 else if k = 5 ∨ k = 11 ∨ k = 12 ∨ k = 13 ∨ k = 14 then 1 else if k = 6 ∨ k = 7 ∨ k = 8 ∨ k = 10 then 2 else if k = 9 then 3 else -1

/-- One small letter. -/
def isNm (nm : ByteArray) : Bool := nm.size == 1 && decide (97 ≤ (nm.data[0]?.getD 0).toNat) && decide ((nm.data[0]?.getD 0).toNat ≤ 122)

def noTy : Ty → Bool
  | .mk k ts => k == 0 && ts.length == 0

/-- The fields of a node are right. -/
def ownM (k : Int) (nm : ByteArray) (num : Int) (ty fr : Ty) (lb : Int) : Bool :=
  (if k = 1 ∨ k = 5 then isNm nm else nm.size == 0) && (if k = 5 ∨ k = 13 ∨ k = 14 then vld ty else noTy ty) && (k == 14 || (noTy fr && lb == 0)) && (if k = 2 then decide (0 ≤ num) && decide (num ≤ 999) else num == 0)

/-- Well formed without casts, down to a depth. -/
def shpM : Nat → Tm → Bool
  | 0, _ => false
  | d + 1, .mk k nm num ty fr lb ts => (kidsM k == (ts.length : Int)) && (k != 14) && ownM k nm num ty fr lb && ts.all (shpM d)

def sumL (f : Tm → Int) : List Tm → Int
  | [] => 0
  | t :: ts => f t + sumL f ts

/-- The number of nodes down to a depth. -/
def cntD : Nat → Tm → Int
  | 0, _ => 1
  | d + 1, .mk _ _ _ _ _ _ ts => 1 + sumL (cntD d) ts

theorem cntD_pos : ∀ d t, 1 ≤ cntD d t
  | 0, _ => by simp [cntD]
  | d + 1, .mk _ _ _ _ _ _ ts => by
    have : ∀ ts : List Tm, 0 ≤ sumL (cntD d) ts := by
      intro ts
      induction ts with
      | nil => simp [sumL]
      | cons t ts ih => have := cntD_pos d t; simp only [sumL]; omega
    have := this ts
    simp only [cntD]
    omega

theorem sumL_nonneg (d : Nat) : ∀ ts : List Tm, 0 ≤ sumL (cntD d) ts
  | [] => by simp [sumL]
  | t :: ts => by have := cntD_pos d t; have := sumL_nonneg d ts; simp only [sumL]; omega

theorem sumL_drop {f : Tm → Int} {ts : List Tm} {k : Nat} (h : k < ts.length) : sumL f (ts.drop k) = f ts[k] + sumL f (ts.drop (k + 1)) := by
  rw [List.drop_eq_getElem_cons h, sumL]

theorem sumD_le_of {d : Nat} (h : ∀ t, cntD d t ≤ t.sz + 1) : ∀ (ts : List Tm), sumL (cntD d) ts ≤ szML ts + ts.length
  | [] => by simp [sumL, szML]
  | t :: ts => by
    have h1 := h t
    have h2 := sumD_le_of h ts
    simp only [sumL, szML, List.length_cons]
    omega

theorem cntD_le : ∀ (d : Nat) (t : Tm), cntD d t ≤ t.sz + 1
  | 0, t => by simp only [cntD]; omega
  | d + 1, .mk k nm num ty fr lb ts => by
    have := sumD_le_of (cntD_le d) ts
    simp only [cntD, Tm.sz]
    omega

theorem sumD_le (d : Nat) (ts : List Tm) : sumL (cntD d) ts ≤ szML ts + ts.length := sumD_le_of (cntD_le d) ts

/-- A valid term. -/
def vldM (t : Tm) : Bool := shpM 12 t && decide (cntD 12 t ≤ 30)

theorem shpM_all {d : Nat} {ts : List Tm} {k : Nat} (h : k < ts.length) : (ts.drop k).all (shpM d) = (shpM d ts[k] && (ts.drop (k + 1)).all (shpM d)) := by
  rw [List.drop_eq_getElem_cons h, List.all_cons]

theorem take_succM {ts : List Tm} {k : Nat} (h : k < ts.length) : ts.take (k + 1) = ts.take k ++ [ts[k]] := by
  rw [List.take_succ_eq_append_getElem h]

end Go.Proofs.YtbmlodikfmpfoaaDoor

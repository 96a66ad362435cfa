/- The reading of a coercion's text, plainly: what the program reads (prc), and that it reads a valid coercion's own text and nothing else. -/
import Derived.Test.YtgekfnodmgkdaaaFc0
import Derived.Test.YtgekfnodmgkdaaaPrs
import Derived.Lib.ItoaMem
namespace Go.Proofs.Ytgekfnodmgkdaaa
open Go.RowKit

/-- The text stands at a place. -/
def TxtAt (s : ByteArray) : Nat → List UInt8 → Prop
  | _, [] => True
  | i, c :: l => byt s i = c.toNat ∧ i < s.size ∧ TxtAt s (i + 1) l

theorem TxtAt.append {s : ByteArray} : ∀ {a b : List UInt8} {i : Nat}, TxtAt s i (a ++ b) ↔ TxtAt s i a ∧ TxtAt s (i + a.length) b
  | [], b, i => by simp [TxtAt]
  | c :: a, b, i => by
    simp only [List.cons_append, TxtAt, TxtAt.append (a := a), List.length_cons, and_assoc]
    rw [show i + 1 + a.length = i + (a.length + 1) by omega]

def isDg (c : Nat) : Bool := decide (48 ≤ c ∧ c ≤ 57)

/-- A number of at most two digits, whose first digit stands at i; the place behind it. (A third digit is read, and the number is then too large.) -/
def rdn (s : ByteArray) (i : Nat) : Nat × Nat :=
  if 0 < byt s i - 48 ∧ isDg (byt s (i + 1)) = true then
    if isDg (byt s (i + 2)) = true then (10 * (10 * (byt s i - 48) + (byt s (i + 1) - 48)) + (byt s (i + 2) - 48), i + 3)
    else (10 * (byt s i - 48) + (byt s (i + 1) - 48), i + 2)
  else (byt s i - 48, i + 1)

/-- The place of a label's first digit. -/
def lbp (s : ByteArray) (i : Nat) : Nat := if byt s i = 45 then i + 1 else i

/-- A label and the place behind it. -/
def rdl (s : ByteArray) (i : Nat) : Option (Int × Nat) :=
  if isDg (byt s (lbp s i)) = true then
    if (rdn s (lbp s i)).1 ≤ 99 then some (if byt s i = 45 then -((rdn s (lbp s i)).1 : Int) else ((rdn s (lbp s i)).1 : Int), (rdn s (lbp s i)).2) else none
  else none

/-- What follows the parenthesis. -/
def prcTwo (s : ByteArray) (p : Nat → Option (Co × Nat)) (i : Nat) : Option (Co × Nat) :=
  match p i with
  | none => none
  | some (a, j) =>
    if byt s j = 62 ∨ byt s j = 42 then
      match p (j + 1) with
      | none => none
      | some (b, m) => if byt s m = 41 then some (.mk (if byt s j = 62 then 2 else 3) 0 0 [a, b], m + 1) else none
    else none

/-- What follows the sign of a projection. -/
def prcPrj (s : ByteArray) (p : Nat → Option (Co × Nat)) (i : Nat) : Option (Co × Nat) :=
  match rdl s i with
  | none => none
  | some (l, j) =>
    if byt s j = 46 then
      match p (j + 1) with
      | none => none
      | some (a, m) => some (.mk 5 0 l [a], m)
    else none

/-- What the program reads. -/
def prc (s : ByteArray) : Nat → Nat → Option (Co × Nat)
  | 0, _ => none
  | d + 1, i =>
    if byt s i = 40 then prcTwo s (prc s d) (i + 1)
    else if byt s i = 33 then
      match prc s d (i + 1) with
      | none => none
      | some (a, j) => some (.mk 4 0 0 [a], j)
    else if byt s i = 35 then prcPrj s (prc s d) (i + 1)
    else if byt s i = 88 then
      match rdl s (i + 1) with
      | none => none
      | some (l, j) => some (.mk 6 (kos (byt s j)) l [], nxt s j)
    else some (.mk 1 (kos (byt s i)) 0 [], nxt s i)

theorem kos_sgn {g : Int} (h : 1 ≤ g ∧ g ≤ 5) : kos (sgn g).toNat = g := by
  have hg : g = 1 ∨ g = 2 ∨ g = 3 ∨ g = 4 ∨ g = 5 := by omega
  rcases hg with rfl | rfl | rfl | rfl | rfl <;> decide

theorem sgn_kos {c : Nat} (h : 1 ≤ kos c) : (sgn (kos c)).toNat = c := by
  unfold kos at *
  split at h
  · subst_vars; rfl
  · split at h
    · subst_vars; simp [*]; rfl
    · split at h
      · subst_vars; simp [*]; rfl
      · split at h
        · subst_vars; simp [*]; rfl
        · split at h
          · subst_vars; simp [*]; rfl
          · omega

theorem dec_one {u : Nat} (h : u < 10) : Lib.decDigits u = [UInt8.ofNat (48 + u)] := by rw [Lib.decDigits.eq_1 u, dif_pos h]
theorem dec_two {u : Nat} (h : 10 ≤ u) (h2 : u < 100) : Lib.decDigits u = [UInt8.ofNat (48 + u / 10), UInt8.ofNat (48 + u % 10)] := by
  rw [Lib.decDigits.eq_1 u, dif_neg (by omega), dec_one (by omega)]
  rfl

theorem ofNat_dg {n : Nat} (h : n < 10) : (UInt8.ofNat (48 + n)).toNat = 48 + n := by
  rw [UInt8.toNat_ofNat']
  omega

/-- A label's digits are read. -/
theorem rdn_dec {s : ByteArray} {i u : Nat} (h1 : 1 ≤ u) (h2 : u ≤ 99) (h : TxtAt s i (Lib.decDigits u)) (hd : isDg (byt s (i + (Lib.decDigits u).length)) = false) :
    rdn s i = (u, i + (Lib.decDigits u).length) ∧ isDg (byt s i) = true := by
  by_cases hu : u < 10
  · rw [dec_one hu] at h hd ⊢
    simp only [TxtAt, ofNat_dg hu] at h
    simp only [List.length_cons, List.length_nil, Nat.zero_add] at hd ⊢
    refine ⟨?_, by rw [h.1]; simp [isDg]; omega⟩
    unfold rdn
    rw [if_neg (by rw [hd]; simp), h.1, show 48 + u - 48 = u by omega]
  · have h10 : 10 ≤ u := by omega
    rw [dec_two h10 (by omega)] at h hd ⊢
    simp only [TxtAt, ofNat_dg (show u / 10 < 10 by omega), ofNat_dg (show u % 10 < 10 by omega)] at h
    simp only [List.length_cons, List.length_nil, Nat.zero_add] at hd ⊢
    refine ⟨?_, by rw [h.1]; simp [isDg]; omega⟩
    unfold rdn
    rw [if_pos ⟨by rw [h.1]; omega, by rw [h.2.2.1]; simp [isDg]; omega⟩, if_neg (by rw [show i + 2 = i + (1 + 1) by omega, hd]; simp), h.1, h.2.2.1]
    rw [show 10 * (48 + u / 10 - 48) + (48 + u % 10 - 48) = u by omega]

theorem dg_in {s : ByteArray} {i : Nat} (h : isDg (byt s i) = true) : i < s.size := byt_in (fun e => by rw [e] at h; simp [isDg] at h)

/-- And what is read as one, is one. -/
theorem dec_rdn {s : ByteArray} {i : Nat} (h1 : 1 ≤ (rdn s i).1) (h2 : (rdn s i).1 ≤ 99) (hd : isDg (byt s i) = true) :
    TxtAt s i (Lib.decDigits (rdn s i).1) ∧ (rdn s i).2 = i + (Lib.decDigits (rdn s i).1).length := by
  have hi := dg_in hd
  have hr : 48 ≤ byt s i ∧ byt s i ≤ 57 := by simpa [isDg] using hd
  by_cases hc : 0 < byt s i - 48 ∧ isDg (byt s (i + 1)) = true
  · have hj := dg_in hc.2
    have hr2 : 48 ≤ byt s (i + 1) ∧ byt s (i + 1) ≤ 57 := by simpa [isDg] using hc.2
    by_cases hc2 : isDg (byt s (i + 2)) = true
    · have e : (rdn s i).1 = 10 * (10 * (byt s i - 48) + (byt s (i + 1) - 48)) + (byt s (i + 2) - 48) := by unfold rdn; rw [if_pos hc, if_pos hc2]
      omega
    · have e : rdn s i = (10 * (byt s i - 48) + (byt s (i + 1) - 48), i + 2) := by unfold rdn; rw [if_pos hc, if_neg hc2]
      rw [e]
      rw [dec_two (by omega) (by omega)]
      refine ⟨⟨?_, hi, ?_, hj, trivial⟩, rfl⟩
      · rw [ofNat_dg (by omega)]; omega
      · rw [ofNat_dg (by omega)]; omega
  · have e : rdn s i = (byt s i - 48, i + 1) := by unfold rdn; rw [if_neg hc]
    rw [e] at h1 ⊢
    simp only at h1 ⊢
    rw [dec_one (by omega)]
    exact ⟨⟨by rw [ofNat_dg (by omega)]; omega, hi, trivial⟩, rfl⟩

theorem rdl_itoa {s : ByteArray} {i : Nat} {l : Int} (hl : isLb l = true) (h0 : l ≠ 0) (h : TxtAt s i (Lib.itoa l)) (hd : isDg (byt s (i + (Lib.itoa l).length)) = false) : rdl s i = some (l, i + (Lib.itoa l).length) := by
  have hr := isLb_rng' hl
  by_cases hn : l < 0
  · obtain ⟨u, rfl⟩ : ∃ u : Nat, l = -(u : Int) := ⟨l.natAbs, by omega⟩
    rw [Lib.itoa_neg u (by omega)] at h hd ⊢
    obtain ⟨hb, hi, h⟩ := h
    have hb' : byt s i = 45 := hb
    have hlen : i + (45 :: Lib.decDigits u).length = i + 1 + (Lib.decDigits u).length := by simp; omega
    rw [hlen] at hd ⊢
    obtain ⟨e1, e2⟩ := rdn_dec (by omega) (by omega) h hd
    have ep : lbp s i = i + 1 := by unfold lbp; rw [if_pos hb']
    unfold rdl
    rw [ep, if_pos e2, e1, if_pos (show u ≤ 99 by omega), if_pos hb']
  · obtain ⟨u, rfl⟩ : ∃ u : Nat, l = (u : Int) := ⟨l.toNat, by omega⟩
    rw [Lib.itoa_nonneg] at h hd ⊢
    obtain ⟨e1, e2⟩ := rdn_dec (by omega) (by omega) h hd
    have hne : byt s i ≠ 45 := fun e => by rw [e] at e2; simp [isDg] at e2
    have ep : lbp s i = i := by unfold lbp; rw [if_neg hne]
    unfold rdl
    rw [ep, if_pos e2, e1, if_pos (show u ≤ 99 by omega), if_neg hne]

theorem itoa_rdl {s : ByteArray} {i j : Nat} {l : Int} (h : rdl s i = some (l, j)) (h0 : l ≠ 0) : TxtAt s i (Lib.itoa l) ∧ j = i + (Lib.itoa l).length := by
  unfold rdl at h
  split at h
  case isFalse => cases h
  rename_i hd
  split at h
  case isFalse => cases h
  rename_i h99
  simp only [Option.some.injEq, Prod.mk.injEq] at h
  obtain ⟨hl, rfl⟩ := h
  by_cases hm : byt s i = 45
  · have ep : lbp s i = i + 1 := by unfold lbp; rw [if_pos hm]
    rw [if_pos hm] at hl
    rw [ep] at hd h99 hl ⊢
    subst hl
    have h1 : 1 ≤ (rdn s (i + 1)).1 := by omega
    obtain ⟨a, b⟩ := dec_rdn h1 h99 hd
    rw [Lib.itoa_neg _ h1]
    exact ⟨⟨hm, byt_in (by rw [hm]; decide), a⟩, by rw [b]; simp; omega⟩
  · have ep : lbp s i = i := by unfold lbp; rw [if_neg hm]
    rw [if_neg hm] at hl
    rw [ep] at hd h99 hl ⊢
    subst hl
    have h1 : 1 ≤ (rdn s i).1 := by omega
    obtain ⟨a, b⟩ := dec_rdn h1 h99 hd
    rw [Lib.itoa_nonneg]
    exact ⟨a, b⟩
end Go.Proofs.Ytgekfnodmgkdaaa

/- The free names of a function: those of its body without its own. -/
import Derived.Test.YtffmpjcjmffdeaaDoorPkE
import Derived.Test.YtffmpjcjmffdeaaDoorTmP
namespace Go.Proofs.YtffmpjcjmffdeaaDoor
open Go.RowKit

theorem bit_or (a j i : Nat) : (a ||| 2 ^ j).testBit i = (a.testBit i || decide (j = i)) := by
  rw [Nat.testBit_or, Nat.testBit_two_pow]

mutual
theorem frN_x (n : Nat) : ∀ (t : Tm) (b b' a a' : Nat), (∀ i, i ≠ n → b'.testBit i = b.testBit i) → b'.testBit n = true → (∀ i, i ≠ n → a'.testBit i = a.testBit i) → a'.testBit n = false →
    (∀ i, i ≠ n → (frN b' a' t).testBit i = (frN b a t).testBit i) ∧ (frN b' a' t).testBit n = false
  | .mk k nm num ty fr lb ts, b, b', a, a', hb, hb1, ha, ha1 => by
    simp only [frN]
    refine frL_x n ts _ _ _ _ (fun i hi => ?_) ?_ (fun i hi => ?_) ?_
    · split
      · rw [bit_or, bit_or, hb i hi]
      · exact hb i hi
    · split
      · rw [bit_or, hb1, Bool.true_or]
      · exact hb1
    · by_cases hx : ixN nm = n
      · rw [hx, if_neg (by rw [hb1]; simp)]
        split
        · rw [bit_or, ha i hi, decide_eq_false (fun e => hi e.symm), Bool.or_false]
        · exact ha i hi
      · rw [hb _ hx]
        split
        · rw [bit_or, bit_or, ha i hi]
        · exact ha i hi
    · by_cases hx : ixN nm = n
      · rw [hx, if_neg (by rw [hb1]; simp)]
        exact ha1
      · split
        · rw [bit_or, ha1, decide_eq_false hx]
          rfl
        · exact ha1
theorem frL_x (n : Nat) : ∀ (ts : List Tm) (b b' a a' : Nat), (∀ i, i ≠ n → b'.testBit i = b.testBit i) → b'.testBit n = true → (∀ i, i ≠ n → a'.testBit i = a.testBit i) → a'.testBit n = false →
    (∀ i, i ≠ n → (frL b' a' ts).testBit i = (frL b a ts).testBit i) ∧ (frL b' a' ts).testBit n = false
  | [], b, b', a, a', hb, hb1, ha, ha1 => by
    simp only [frL]
    exact ⟨ha, ha1⟩
  | t :: ts, b, b', a, a', hb, hb1, ha, ha1 => by
    obtain ⟨h1, h2⟩ := frN_x n t b b' a a' hb hb1 ha ha1
    simp only [frL]
    exact frL_x n ts _ _ _ _ hb hb1 h1 h2
end

theorem lstR_x {m m' n : Nat} (hn : n < 26) (h : ∀ i, i ≠ n → m'.testBit i = m.testBit i) (h1 : m'.testBit n = false) : ∀ c i, i + c ≤ 26 → lstR m' i c = (lstR m i c).filter (fun x => x != (97 + n).toUInt8)
  | 0, _, _ => rfl
  | c + 1, i, hi => by
    simp only [lstR]
    rw [lstR_x hn h h1 c (i + 1) (by omega)]
    by_cases hx : i = n
    · subst hx
      rw [h1]
      simp only [Bool.false_eq_true, if_false]
      split
      · rw [List.filter_cons_of_neg (by simp)]
      · rfl
    · rw [h i hx]
      have hne : ((97 + i).toUInt8 != (97 + n).toUInt8) = true := by
        rw [bne_iff_ne]
        intro e
        have := congrArg UInt8.toNat e
        rw [fr_u8 (by omega), fr_u8 (by omega)] at this
        omega
      split
      · rw [List.filter_cons, if_pos hne]
      · rfl

/-- The function of the name x over a term. -/
def lamX (t : Tm) : Tm := .mk 5 ⟨#[120]⟩ 0 (.mk 1 []) (.mk 0 []) 0 [t]

/-- The letters but x. -/
def noX (l : List UInt8) : List UInt8 := l.filter (fun x => x != 120)

theorem free_lamX {t : Tm} (h : vldM (lamX t) = true) : freeS (lamX t) = ⟨(noX (lst (frN 0 0 t))).toArray⟩ := by
  have hi : ixN ⟨#[120]⟩ = 23 := by decide
  have e : frN 0 0 (lamX t) = frN (0 ||| 2 ^ 23) 0 t := by
    unfold lamX
    simp only [frN, frL, hi]
    simp
  obtain ⟨h1, h2⟩ := frN_x 23 t 0 (0 ||| 2 ^ 23) 0 0 (fun i hn => by rw [bit_or, decide_eq_false (fun e => hn e.symm), Bool.or_false]) (by rw [bit_or]; simp) (fun _ _ => rfl) (by simp)
  unfold freeS
  rw [if_pos h, e]
  unfold strN lst noX
  rw [lstR_x (by omega) h1 h2 26 0 (by omega)]
  rfl

theorem free_body {t : Tm} (h : vldM (lamX t) = true) : freeS t = ⟨(lst (frN 0 0 t)).toArray⟩ := by
  unfold freeS
  rw [if_pos (vld_kid h t (by simp))]
  rfl

theorem noX_take {l : List UInt8} {j : Nat} (h : j < l.length) : noX (l.take (j + 1)) = noX (l.take j) ++ (if l[j] = 120 then [] else [l[j]]) := by
  unfold noX
  rw [List.take_succ_eq_append_getElem h, List.filter_append]
  congr 1
  by_cases hx : l[j] = 120
  · rw [if_pos hx, hx]
    rfl
  · rw [if_neg hx, List.filter_cons, if_pos (by simpa using hx)]
    rfl

theorem noX_len (l : List UInt8) : (noX l).length ≤ l.length := List.length_filter_le _ _
end Go.Proofs.YtffmpjcjmffdeaaDoor

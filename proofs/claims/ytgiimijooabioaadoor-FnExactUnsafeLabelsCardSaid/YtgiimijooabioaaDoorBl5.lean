/- Which labels the casts of a term can blame, as plain functions; the lists of them. -/
import Derived.Test.YtgiimijooabioaaDoorBl0
import Derived.Test.YtgiimijooabioaaDoorLbA
namespace Go.Proofs.YtgiimijooabioaaDoor
open Go.RowKit

/-- A cast between these types with this label can blame l. -/
def canB (fr ty : Ty) (lb l : Int) : Bool := if l = lb then !sub 4 1 fr ty else if l = -lb then !sub 4 (-1) fr ty else false

theorem canB_lab {fr ty : Ty} {lb l : Int} (h : canB fr ty lb l = true) : l = lb ∨ l = -lb := by
  unfold canB at h
  split at h
  · exact .inl (by assumption)
  · split at h
    · exact .inr (by assumption)
    · cases h

/-- The document's words, at a label. -/
theorem canB_eq {fr ty : Ty} {lb l : Int} (h : l ≠ 0) : ((lb == l && !sub 4 1 fr ty) || (lb == -l && !sub 4 (-1) fr ty)) = canB fr ty lb l := by
  unfold canB
  by_cases h1 : l = lb
  · subst h1
    have : (l == -l) = false := by rw [beq_eq_false_iff_ne]; omega
    rw [this, if_pos rfl]
    simp
  · have h2 : (lb == l) = false := by rw [beq_eq_false_iff_ne]; omega
    rw [if_neg h1, h2]
    by_cases h3 : l = -lb
    · have : (lb == -l) = true := by rw [beq_iff_eq]; omega
      rw [if_pos h3, this]
      simp
    · have : (lb == -l) = false := by rw [beq_eq_false_iff_ne]; omega
      rw [if_neg h3, this]
      simp

mutual
/-- No cast of the term can blame the label. -/
def safN (l : Int) : Tm → Bool
  | .mk k _ _ ty fr lb ts => !(k == 14 && canB fr ty lb l) && safL l ts
def safL (l : Int) : List Tm → Bool
  | [] => true
  | t :: ts => safN l t && safL l ts
end

theorem safL_step {l : Int} {ts : List Tm} {j : Nat} (h : j < ts.length) : safL l (ts.drop j) = (safN l ts[j] && safL l (ts.drop (j + 1))) := by
  rw [List.drop_eq_getElem_cons h, safL]

def safOf (l : Int) (t : Tm) : Bool := vldC t && isLb l && safN l t

/-- One visit of SafeFor. -/
def sfStep (l : Int) (a : Bool) : Tm → Bool
  | .mk _ _ _ ty fr lb _ => a && !canB fr ty lb l

mutual
theorem ecN_sf (l : Int) : ∀ (t : Tm) (a : Bool), ecN (sfStep l) a t = (a && safN l t)
  | .mk k nm num ty fr lb ts, a => by
    have h := ecL_sf l ts (if k = 14 then sfStep l a (.mk k nm num ty fr lb ts) else a)
    simp only [ecN, safN]
    rw [h]
    by_cases hk : k = 14
    · rw [if_pos hk]
      have : (k == 14) = true := by simpa using hk
      rw [this, Bool.true_and]
      simp only [sfStep, Bool.and_assoc]
    · rw [if_neg hk]
      have : (k == 14) = false := by simpa using hk
      rw [this, Bool.false_and]
      simp
theorem ecL_sf (l : Int) : ∀ (ts : List Tm) (a : Bool), ecL (sfStep l) a ts = (a && safL l ts)
  | [], a => by simp [ecL, safL]
  | t :: ts, a => by
    simp only [ecL, safL]
    rw [ecN_sf l t a, ecL_sf l ts, Bool.and_assoc]
end

/-- One visit of UnsafeLabels: the label and its negation, if the cast can blame it. -/
def ulAdd (fr ty : Ty) (lb : Int) (a : List Int) (l : Int) : List Int := if canB fr ty lb l then a ++ [l] else a
def ulStep (a : List Int) : Tm → List Int
  | .mk _ _ _ ty fr lb _ => ulAdd fr ty lb (ulAdd fr ty lb a lb) (-lb)

theorem ulAdd_len (fr ty : Ty) (lb : Int) (a : List Int) (l : Int) : (ulAdd fr ty lb a l).length ≤ a.length + 1 := by
  unfold ulAdd
  split <;> simp

theorem ulStep_len : ∀ (a : List Int) (t : Tm), (ulStep a t).length ≤ a.length + 2
  | a, .mk _ _ _ ty fr lb _ => by
    have h1 := ulAdd_len fr ty lb a lb
    have h2 := ulAdd_len fr ty lb (ulAdd fr ty lb a lb) (-lb)
    simp only [ulStep]
    omega

theorem ulAdd_mem {fr ty : Ty} {lb : Int} {a : List Int} {l x : Int} : x ∈ ulAdd fr ty lb a l ↔ x ∈ a ∨ (x = l ∧ canB fr ty lb l = true) := by
  unfold ulAdd
  split <;> simp [*]

theorem ulStep_mem (a : List Int) (k : Int) (nm : ByteArray) (num : Int) (ty fr : Ty) (lb : Int) (ts : List Tm) (x : Int) : x ∈ ulStep a (.mk k nm num ty fr lb ts) ↔ x ∈ a ∨ canB fr ty lb x = true := by
  simp only [ulStep, ulAdd_mem]
  constructor
  · rintro ((h | ⟨rfl, h⟩) | ⟨rfl, h⟩)
    · exact .inl h
    · exact .inr h
    · exact .inr h
  · rintro (h | h)
    · exact .inl (.inl h)
    · rcases canB_lab h with rfl | rfl
      · exact .inl (.inr ⟨rfl, h⟩)
      · exact .inr ⟨rfl, h⟩

mutual
theorem ecN_ul (x : Int) : ∀ (t : Tm) (a : List Int), x ∈ ecN ulStep a t ↔ x ∈ a ∨ safN x t = false
  | .mk k nm num ty fr lb ts, a => by
    have h := ecL_ul x ts (if k = 14 then ulStep a (.mk k nm num ty fr lb ts) else a)
    simp only [ecN, safN]
    rw [h]
    by_cases hk : k = 14
    · rw [if_pos hk, ulStep_mem]
      have : (k == 14) = true := by simpa using hk
      rw [this, Bool.true_and, Bool.and_eq_false_iff]
      simp [or_assoc]
    · rw [if_neg hk]
      have : (k == 14) = false := by simpa using hk
      rw [this, Bool.false_and]
      simp
theorem ecL_ul (x : Int) : ∀ (ts : List Tm) (a : List Int), x ∈ ecL ulStep a ts ↔ x ∈ a ∨ safL x ts = false
  | [], a => by simp [ecL, safL]
  | t :: ts, a => by
    simp only [ecL, safL]
    rw [ecL_ul x ts, ecN_ul x t a, Bool.and_eq_false_iff, or_assoc]
end

mutual
theorem ecN_lb (x : Int) : ∀ (t : Tm) (a : List Int), (x ∈ a ∨ safN x t = false → x ∈ ecN lbStep a t ∨ -x ∈ ecN lbStep a t) ∧ (x ∈ a → x ∈ ecN lbStep a t)
  | .mk k nm num ty fr lb ts, a => by
    have h := ecL_lb x ts (if k = 14 then lbStep a (.mk k nm num ty fr lb ts) else a)
    have h' := ecL_lb (-x) ts (if k = 14 then lbStep a (.mk k nm num ty fr lb ts) else a)
    simp only [ecN, safN]
    by_cases hk : k = 14
    · rw [if_pos hk] at h h' ⊢
      have : (k == 14) = true := by simpa using hk
      rw [this, Bool.true_and, Bool.and_eq_false_iff]
      simp only [lbStep, List.mem_append, List.mem_singleton] at h h' ⊢
      refine ⟨?_, fun hx => h.2 (.inl hx)⟩
      rintro (hx | hx | hx)
      · exact .inl (h.2 (.inl hx))
      · have hx : canB fr ty lb x = true := by simpa using hx
        rcases canB_lab hx with e | e
        · exact .inl (h.2 (.inr e))
        · exact .inr (h'.2 (.inr (by omega)))
      · exact h.1 (.inr hx)
    · rw [if_neg hk] at h h' ⊢
      have : (k == 14) = false := by simpa using hk
      rw [this, Bool.false_and]
      simp only [Bool.not_false, Bool.true_and]
      exact h
theorem ecL_lb (x : Int) : ∀ (ts : List Tm) (a : List Int), (x ∈ a ∨ safL x ts = false → x ∈ ecL lbStep a ts ∨ -x ∈ ecL lbStep a ts) ∧ (x ∈ a → x ∈ ecL lbStep a ts)
  | [], a => by
    simp only [ecL, safL]
    exact ⟨fun h => .inl (by simpa using h), id⟩
  | t :: ts, a => by
    have h1 := ecN_lb x t a
    have h1' := ecN_lb (-x) t a
    have h2 := ecL_lb x ts (ecN lbStep a t)
    have h2' := ecL_lb (-x) ts (ecN lbStep a t)
    simp only [ecL, safL, Bool.and_eq_false_iff]
    refine ⟨?_, fun hx => h2.2 (h1.2 hx)⟩
    rintro (hx | hx | hx)
    · exact .inl (h2.2 (h1.2 hx))
    · rcases h1.1 (.inr hx) with h | h
      · exact .inl (h2.2 h)
      · exact .inr (h2'.2 h)
    · exact h2.1 (.inr hx)
end

/-- What the program collects, sorted, one of each. -/
def ulLst (t : Tm) : List Int := if vldC t then (ecN ulStep [] t).foldl srtI [] else []

/-- One round of the specification's walk over the labels. -/
def usAdd (t : Tm) (a : List Int) (l : Int) : List Int := if safN l t then a else srtI a l
def usStep (t : Tm) (a : List Int) (l : Int) : List Int := usAdd t (usAdd t a l) (-l)

theorem usAdd_len (t : Tm) (a : List Int) (l : Int) : (usAdd t a l).length ≤ a.length + 1 := by
  have := srtI_len a l
  unfold usAdd
  split <;> omega

theorem usStep_len (t : Tm) (a : List Int) (l : Int) : (usStep t a l).length ≤ a.length + 2 := by
  have h1 := usAdd_len t a l
  have h2 := usAdd_len t (usAdd t a l) (-l)
  unfold usStep
  omega

theorem usFold_len (t : Tm) : ∀ (zs : List Int) (a : List Int), (zs.foldl (usStep t) a).length ≤ a.length + 2 * zs.length
  | [], a => by simp
  | z :: zs, a => by
    have h1 := usFold_len t zs (usStep t a z)
    have h2 := usStep_len t a z
    simp only [List.foldl_cons, List.length_cons]
    omega

theorem usAdd_lt (t : Tm) (a : List Int) (l : Int) (h : a.Pairwise (· < ·)) : (usAdd t a l).Pairwise (· < ·) := by
  unfold usAdd
  split
  · exact h
  · exact srtI_lt a l h

theorem usAdd_mem (t : Tm) (a : List Int) (l x : Int) : x ∈ usAdd t a l ↔ x ∈ a ∨ (x = l ∧ safN l t = false) := by
  unfold usAdd
  cases h : safN l t with
  | true => simp
  | false =>
    simp only [Bool.false_eq_true, if_false, srtI_mem, and_true]
    exact Or.comm

theorem usFold (t : Tm) : ∀ (zs : List Int) (a : List Int), a.Pairwise (· < ·) → (zs.foldl (usStep t) a).Pairwise (· < ·) ∧ ∀ x, x ∈ zs.foldl (usStep t) a ↔ x ∈ a ∨ ((x ∈ zs ∨ -x ∈ zs) ∧ safN x t = false)
  | [], a, h => ⟨h, fun x => by simp⟩
  | z :: zs, a, h => by
    obtain ⟨h1, h2⟩ := usFold t zs (usStep t a z) (usAdd_lt _ _ _ (usAdd_lt _ _ _ h))
    refine ⟨h1, fun x => ?_⟩
    rw [List.foldl_cons, h2 x]
    simp only [usStep, usAdd_mem, List.mem_cons]
    constructor
    · rintro (((h | ⟨rfl, h⟩) | ⟨rfl, h⟩) | ⟨h | h, h'⟩)
      · exact .inl h
      · exact .inr ⟨.inl (.inl rfl), h⟩
      · exact .inr ⟨.inr (.inl (by omega)), h⟩
      · exact .inr ⟨.inl (.inr h), h'⟩
      · exact .inr ⟨.inr (.inr h), h'⟩
    · rintro (h | ⟨(rfl | h) | (h | h), h'⟩)
      · exact .inl (.inl (.inl h))
      · exact .inl (.inl (.inr ⟨rfl, h'⟩))
      · exact .inr ⟨.inl h, h'⟩
      · obtain rfl : x = -z := by omega
        exact .inl (.inr ⟨rfl, h'⟩)
      · exact .inr ⟨.inr h, h'⟩

/-- The two lists are the same. -/
theorem us_eq (t : Tm) : ((ecN srStep [] t).foldl (usStep t) []) = (ecN ulStep [] t).foldl srtI [] := by
  obtain ⟨h1, h2⟩ := usFold t (ecN srStep [] t) [] List.Pairwise.nil
  obtain ⟨h3, h4⟩ := foldl_srt (ecN ulStep [] t) [] List.Pairwise.nil
  refine eq_of_lt_mem _ _ h1 h3 fun x => ?_
  have hs := ecN_srt t []
  simp only [List.foldl_nil] at hs
  obtain ⟨_, h5⟩ := foldl_srt (ecN lbStep [] t) [] List.Pairwise.nil
  rw [h2 x, h4 x, hs, h5 x, h5 (-x), ecN_ul x t []]
  simp only [List.not_mem_nil, false_or, or_false]
  constructor
  · exact fun h => h.2
  · exact fun h => ⟨(ecN_lb x t []).1 (.inr h), h⟩

theorem ulLst_len (t : Tm) : (ulLst t).length ≤ 4 * (t.sz + 1) := by
  unfold ulLst
  split
  · rw [← us_eq t]
    have h1 := usFold_len t (ecN srStep [] t) []
    have h2 := ecN_len srStep List.length srStep_len t []
    simp only [List.length_nil] at *
    omega
  · simp

end Go.Proofs.YtgiimijooabioaaDoor

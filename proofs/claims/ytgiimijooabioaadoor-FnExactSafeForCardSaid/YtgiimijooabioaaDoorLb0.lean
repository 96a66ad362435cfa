/- The labels of a term's casts: collected and sorted, or each put in its place: the same list. -/
import Derived.Test.YtgiimijooabioaaDoorEcJ
import Derived.Lib.SlicesCompact
namespace Go.Proofs.YtgiimijooabioaaDoor
open Go.RowKit

/-- A number among a list's, ahead of the first greater one. -/
def insB (n : Int) : List Int → List Int
  | [] => [n]
  | x :: xs => if n < x then n :: x :: xs else x :: insB n xs

/-- A list with a number, if it is not there. -/
def srtI (l : List Int) (n : Int) : List Int := if n ∈ l then l else insB n l

theorem insB_mem (n x : Int) : ∀ l : List Int, x ∈ insB n l ↔ x = n ∨ x ∈ l
  | [] => by simp [insB]
  | y :: l => by
    unfold insB
    split
    · simp
    · rw [List.mem_cons, insB_mem n x l, List.mem_cons]
      constructor
      · rintro (h | h | h) <;> simp [h]
      · rintro (h | h | h) <;> simp [h]

theorem srtI_mem (l : List Int) (n x : Int) : x ∈ srtI l n ↔ x = n ∨ x ∈ l := by
  unfold srtI
  split
  · rename_i h
    constructor
    · exact fun hx => .inr hx
    · rintro (rfl | hx)
      · exact h
      · exact hx
  · exact insB_mem n x l

theorem insB_lt (n : Int) : ∀ l : List Int, l.Pairwise (· < ·) → n ∉ l → (insB n l).Pairwise (· < ·)
  | [], _, _ => by simp [insB]
  | y :: l, h, hn => by
    rw [List.pairwise_cons] at h
    simp only [List.mem_cons, not_or] at hn
    unfold insB
    split
    · rename_i hy
      refine List.pairwise_cons.2 ⟨fun z hz => ?_, List.pairwise_cons.2 h⟩
      rcases List.mem_cons.1 hz with rfl | hz
      · exact hy
      · have := h.1 z hz
        omega
    · rename_i hy
      refine List.pairwise_cons.2 ⟨fun z hz => ?_, insB_lt n l h.2 hn.2⟩
      rcases (insB_mem n z l).1 hz with rfl | hz
      · omega
      · exact h.1 z hz

theorem srtI_lt (l : List Int) (n : Int) (h : l.Pairwise (· < ·)) : (srtI l n).Pairwise (· < ·) := by
  unfold srtI
  split
  · exact h
  · exact insB_lt n l h (by assumption)

theorem eq_of_lt_mem : ∀ a b : List Int, a.Pairwise (· < ·) → b.Pairwise (· < ·) → (∀ x, x ∈ a ↔ x ∈ b) → a = b
  | [], [], _, _, _ => rfl
  | [], y :: b, _, _, h => by have := (h y).2 (by simp); simp at this
  | x :: a, [], _, _, h => by have := (h x).1 (by simp); simp at this
  | x :: a, y :: b, ha, hb, h => by
    rw [List.pairwise_cons] at ha hb
    have hxy : x = y := by
      have h1 := (h x).1 (by simp)
      have h2 := (h y).2 (by simp)
      rcases List.mem_cons.1 h1 with e | h1
      · exact e
      · rcases List.mem_cons.1 h2 with e | h2
        · exact e.symm
        · have := ha.1 y h2
          have := hb.1 x h1
          omega
    subst hxy
    rw [eq_of_lt_mem a b ha.2 hb.2 fun z => ?_]
    constructor
    · intro hz
      rcases List.mem_cons.1 ((h z).1 (by simp [hz])) with e | e
      · have := ha.1 z hz
        omega
      · exact e
    · intro hz
      rcases List.mem_cons.1 ((h z).2 (by simp [hz])) with e | e
      · have := hb.1 z hz
        omega
      · exact e

theorem compact_lt (zs : List Int) (h : zs.Pairwise (· ≤ ·)) : (Lib.compact zs).Pairwise (· < ·) := by
  unfold Lib.compact Lib.compactUpTo
  rw [List.pairwise_map]
  have hr : (List.range zs.length).Pairwise (fun i j => i < j) := List.pairwise_lt_range
  refine List.Pairwise.imp_of_mem ?_ (hr.filter (Lib.keeps zs.toArray))
  intro i j hi hj hij
  simp only [List.mem_filter, List.mem_range] at hi hj
  have hk : zs.toArray[j]! ≠ zs.toArray[j - 1]! := by
    have := hj.2
    simp only [Lib.keeps, decide_eq_true_eq] at this
    rcases this with h0 | h0
    · omega
    · exact h0
  rw [List.pairwise_iff_getElem] at h
  have e : ∀ i, (hi : i < zs.length) → zs.toArray[i]! = zs[i] := fun i hi => by simp [hi]
  rw [e j hj.1, e (j - 1) (by omega)] at hk
  rw [e i hi.1, e j hj.1]
  have h1 := h (j - 1) j (by omega) hj.1 (by omega)
  have h2 : zs[i] ≤ zs[j - 1] := by
    by_cases hh : i = j - 1
    · subst hh; exact Int.le_refl _
    · exact h i (j - 1) hi.1 (by omega) (by omega)
  omega

theorem compact_mem (zs : List Int) (x : Int) : x ∈ Lib.compact zs ↔ x ∈ zs := by
  unfold Lib.compact Lib.compactUpTo
  have e : ∀ i, (hi : i < zs.length) → zs.toArray[i]! = zs[i] := fun i hi => by simp [hi]
  constructor
  · intro h
    obtain ⟨i, hi, rfl⟩ := List.mem_map.1 h
    simp only [List.mem_filter, List.mem_range] at hi
    rw [e i hi.1]
    exact List.getElem_mem _
  · intro h
    obtain ⟨i, hi, rfl⟩ := List.mem_iff_getElem.1 h
    clear h
    induction i with
    | zero => exact List.mem_map.2 ⟨0, by simp [hi, Lib.keeps], e 0 hi⟩
    | succ i ih =>
      by_cases hk : Lib.keeps zs.toArray (i + 1) = true
      · exact List.mem_map.2 ⟨i + 1, by simp [hi, hk], e _ hi⟩
      · have : zs.toArray[i + 1]! = zs.toArray[i]! := by simpa [Lib.keeps] using hk
        rw [e _ hi, e i (by omega)] at this
        rw [this]
        exact ih (by omega)

theorem foldl_srt (zs : List Int) : ∀ l : List Int, l.Pairwise (· < ·) → (zs.foldl srtI l).Pairwise (· < ·) ∧ ∀ x, x ∈ zs.foldl srtI l ↔ x ∈ zs ∨ x ∈ l := by
  induction zs with
  | nil => exact fun l h => ⟨h, fun x => by simp⟩
  | cons z zs ih =>
    intro l h
    obtain ⟨h1, h2⟩ := ih (srtI l z) (srtI_lt l z h)
    refine ⟨h1, fun x => ?_⟩
    rw [List.foldl_cons, h2 x, srtI_mem, List.mem_cons]
    constructor
    · rintro (h | h | h) <;> simp [h]
    · rintro ((h | h) | h) <;> simp [h]

/-- Sorting and taking one of each is putting each in its place. -/
theorem compact_sort (zs : List Int) : Lib.compact (zs.mergeSort fun x y => decide (x ≤ y)) = zs.foldl srtI [] := by
  have hs : (zs.mergeSort fun x y => decide (x ≤ y)).Pairwise (· ≤ ·) := by
    have := List.pairwise_mergeSort (le := fun x y : Int => decide (x ≤ y)) (fun a b c h1 h2 => by simp at *; omega) (fun a b => by simp; omega) zs
    exact this.imp fun h => by simpa using h
  obtain ⟨h1, h2⟩ := foldl_srt zs [] List.Pairwise.nil
  refine eq_of_lt_mem _ _ (compact_lt _ hs) h1 fun x => ?_
  rw [compact_mem, h2 x, List.mem_mergeSort]
  simp

theorem insB_none (n : Int) : ∀ l : List Int, (∀ y ∈ l, ¬ n < y) → insB n l = l ++ [n]
  | [], _ => rfl
  | y :: l, h => by
    unfold insB
    rw [if_neg (h y (by simp)), insB_none n l fun z hz => h z (by simp [hz])]
    rfl

theorem insB_some (n x : Int) : ∀ l : List Int, (∃ y ∈ l, n < y) → insB n (l ++ [x]) = insB n l ++ [x]
  | [], h => by simp at h
  | y :: l, h => by
    simp only [List.cons_append, insB]
    split
    · rfl
    · rename_i hy
      have h' : ∃ z ∈ l, n < z := by
        obtain ⟨z, hz, hn⟩ := h
        rcases List.mem_cons.1 hz with e | hz
        · rw [e] at hn
          exact absurd hn hy
        · exact ⟨z, hz, hn⟩
      rw [insB_some n x l h', List.cons_append]

theorem insB_here (n x : Int) (hx : n < x) : ∀ l : List Int, (∀ y ∈ l, ¬ n < y) → insB n (l ++ [x]) = l ++ [n] ++ [x]
  | [], _ => by simp [insB, hx]
  | y :: l, h => by
    simp only [List.cons_append, insB]
    rw [if_neg (h y (by simp)), insB_here n x hx l fun z hz => h z (by simp [hz])]

/-- What the sorted list is ahead of the last elements: the number is there once a greater one has been met. -/
def preI (n : Int) (l : List Int) : List Int := if l.any (fun y => decide (n < y)) then insB n l else l

theorem preI_done {n : Int} {l : List Int} (h : l.any (fun y => decide (n < y)) = true) : preI n l = insB n l := by unfold preI; rw [if_pos h]
theorem preI_not {n : Int} {l : List Int} (h : l.any (fun y => decide (n < y)) = false) : preI n l = l := by unfold preI; rw [h]; rfl

theorem any_some {n : Int} {l : List Int} (h : l.any (fun y => decide (n < y)) = true) : ∃ y ∈ l, n < y := by
  obtain ⟨y, hy, hn⟩ := List.any_eq_true.1 h
  exact ⟨y, hy, by simpa using hn⟩
theorem any_none {n : Int} {l : List Int} (h : l.any (fun y => decide (n < y)) = false) : ∀ y ∈ l, ¬ n < y := fun y hy hn => by
  have := List.any_eq_false.1 h y hy
  simp [hn] at this

theorem any_snoc (n x : Int) (l : List Int) : (l ++ [x]).any (fun y => decide (n < y)) = (l.any (fun y => decide (n < y)) || decide (n < x)) := by simp

theorem preI_len (n : Int) (l : List Int) : (preI n l).length ≤ l.length + 1 := by
  unfold preI
  split
  · have : ∀ l : List Int, (insB n l).length = l.length + 1 := fun l => by
      induction l with
      | nil => rfl
      | cons y l ih => unfold insB; split <;> simp [ih]
    rw [this]
    exact Nat.le_refl _
  · omega

theorem srtI_len (l : List Int) (n : Int) : (srtI l n).length ≤ l.length + 1 := by
  unfold srtI
  split
  · omega
  · have : ∀ l : List Int, (insB n l).length = l.length + 1 := fun l => by
      induction l with
      | nil => rfl
      | cons y l ih => unfold insB; split <;> simp [ih]
    rw [this]
    exact Nat.le_refl _

/-- Behind the last element. -/
theorem srtI_end {n : Int} {l : List Int} (h : n ∉ l) : srtI l n = if l.any (fun y => decide (n < y)) then preI n l else preI n l ++ [n] := by
  unfold srtI
  rw [if_neg h]
  cases ha : l.any (fun y => decide (n < y)) with
  | true => rw [preI_done ha]; rfl
  | false => rw [preI_not ha, insB_none n l (any_none ha)]; rfl

/-- One visit of a cast: its label at the end; its label in its place. -/
def lbStep (a : List Int) : Tm → List Int
  | .mk _ _ _ _ _ lb _ => a ++ [lb]
def srStep (a : List Int) : Tm → List Int
  | .mk _ _ _ _ _ lb _ => srtI a lb

theorem lbStep_len : ∀ (a : List Int) (t : Tm), (lbStep a t).length ≤ a.length + 2
  | a, .mk _ _ _ _ _ lb _ => by simp [lbStep]
theorem srStep_len : ∀ (a : List Int) (t : Tm), (srStep a t).length ≤ a.length + 2
  | a, .mk _ _ _ _ _ lb _ => by have := srtI_len a lb; simp only [srStep]; omega

theorem srStep_fold (zs : List Int) (t : Tm) : srStep (zs.foldl srtI []) t = (lbStep zs t).foldl srtI [] := by
  cases t
  simp [srStep, lbStep]

mutual
theorem ecN_srt : ∀ (t : Tm) (zs : List Int), ecN srStep (zs.foldl srtI []) t = (ecN lbStep zs t).foldl srtI []
  | .mk k nm num ty fr lb ts, zs => by
    have h := ecL_srt ts (if k = 14 then lbStep zs (.mk k nm num ty fr lb ts) else zs)
    simp only [ecN]
    rw [← h]
    congr 1
    split
    · exact srStep_fold zs _
    · rfl
theorem ecL_srt : ∀ (ts : List Tm) (zs : List Int), ecL srStep (zs.foldl srtI []) ts = (ecL lbStep zs ts).foldl srtI []
  | [], zs => by simp [ecL]
  | t :: ts, zs => by
    simp only [ecL]
    rw [ecN_srt t zs, ecL_srt ts]
end
end Go.Proofs.YtgiimijooabioaaDoor

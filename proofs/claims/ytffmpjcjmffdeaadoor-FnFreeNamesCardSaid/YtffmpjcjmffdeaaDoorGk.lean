/- The ground type of a kind: the program's groundOfKind. -/
import Derived.Test.YtffmpjcjmffdeaaDoorGrd
import Derived.Test.YtffmpjcjmffdeaaDoorPkA
import Derived.Test.YtffmpjcjmffdeaaDoorWalkT
namespace Go.Proofs.YtffmpjcjmffdeaaDoor
open Go.RowKit

/-- The ground type of a kind. -/
def gk (k : Int) : Ty := .mk k (if k = 4 ∨ k = 5 then [.mk 1 [], .mk 1 []] else [])

theorem wf_kids {k : Int} {ts : List Ty} (h : wf (.mk k ts)) : ((k = 1 ∨ k = 2 ∨ k = 3) ∧ ts = []) ∨ ((k = 4 ∨ k = 5) ∧ ∃ a b, ts = [a, b] ∧ wf a ∧ wf b) := by
  obtain ⟨hk, hw⟩ := wf_mk h
  unfold kidsOf at hk
  by_cases h1 : k = 1 ∨ k = 2 ∨ k = 3
  · rw [if_pos h1] at hk
    exact .inl ⟨h1, List.length_eq_zero_iff.1 (by omega)⟩
  rw [if_neg h1] at hk
  by_cases h2 : k = 4 ∨ k = 5
  · rw [if_pos h2] at hk
    match ts, hk, hw with
    | [a, b], _, hw => exact .inr ⟨h2, a, b, rfl, hw a (by simp), hw b (by simp)⟩
    | [], hk, _ => simp at hk
    | [_], hk, _ => simp at hk
    | _ :: _ :: _ :: _, hk, _ => simp at hk; omega
  · rw [if_neg h2] at hk; omega

theorem wf_unk : wf (.mk 1 []) := ⟨1, by decide⟩

theorem wf_gk {k : Int} (h : 1 ≤ k ∧ k ≤ 5) : wf (gk k) := by
  have : k = 1 ∨ k = 2 ∨ k = 3 ∨ k = 4 ∨ k = 5 := by omega
  rcases this with rfl | rfl | rfl | rfl | rfl <;> exact ⟨2, by decide⟩

theorem grd_gk {t : Ty} (h : wf t) : grd t = gk (kindT t) := by
  obtain ⟨k, ts, rfl⟩ := t.shape
  rcases wf_kids h with ⟨hk, rfl⟩ | ⟨hk, a, b, rfl, _, _⟩
  · have : ¬ (k = 4 ∨ k = 5) := by omega
    simp [grd, gk, grdL, kindT, this]
  · simp [grd, gk, grdL, kindT, hk]

theorem wf_kind {t : Ty} (h : wf t) : 1 ≤ kindT t ∧ kindT t ≤ 5 := by
  obtain ⟨k, ts, rfl⟩ := t.shape
  rcases wf_kids h with ⟨hk, rfl⟩ | ⟨hk, a, b, rfl, _, _⟩ <;> (simp only [kindT]; omega)

/-- A new block of zero types of which the first j kinds have been set. -/
def Kinds (M n j : Nat) (wr : World) : Prop :=
  ∃ C : Array Value, wr.heap[M]? = some (.cells C 32 (0, 0)) ∧ C.size = n * 2 ∧ ∀ i, i < n → C[i * 2]? = some (.int .i64 (if i < j then 1 else 0)) ∧ C[i * 2 + 1]? = some (.slice none 0 0)

theorem made_pair (x y : Value) (n i : Nat) (h : i < n) : (madeCells #[x, y] (n * 2))[i * 2]? = some x ∧ (madeCells #[x, y] (n * 2))[i * 2 + 1]? = some y := by
  have h1 : i * 2 < n * 2 := by omega
  have h2 : i * 2 + 1 < n * 2 := by omega
  constructor
  · simp [madeCells, h1]
  · have : (i * 2 + 1) % 2 = 1 := by omega
    simp [madeCells, h2, this]

theorem Kinds.set {M n j : Nat} {w : World} (h : Kinds M n j w) (hj : j < n) : Kinds M n (j + 1) (w.setCell ⟨M, j * 2, none⟩ (.int .i64 1)) := by
  obtain ⟨C, hB, hC, hc⟩ := h
  refine ⟨_, heap_setCell_at hB _, by simp [hC], fun i hi => ⟨?_, ?_⟩⟩
  · by_cases hij : i = j
    · subst hij
      rw [if_pos (by omega)]
      simp [Array.getElem?_setIfInBounds, hC]
      omega
    · rw [Array.getElem?_setIfInBounds_ne (by omega), (hc i hi).1]
      by_cases h : i < j
      · rw [if_pos h, if_pos (by omega)]
      · rw [if_neg h, if_neg (by omega)]
  · rw [Array.getElem?_setIfInBounds_ne (by omega)]
    exact (hc i hi).2

theorem Kinds.done {M : Nat} {ts : List Ty} {w : World} (h : Kinds M ts.length ts.length w) (hp : 0 < ts.length) (hm : ts.length ≤ maxLen) : SlAt w (grdL ts) (.slice (some ⟨M, 0, none⟩) ts.length ts.length) [M] ∧ Fresh M w [M] := by
  obtain ⟨C, hB, hC, hc⟩ := h
  have hl : (grdL ts).length = ts.length := by simp [grdL]
  have hat : Ty.AtL w (grdL ts) M 0 (ts.map fun _ => ([] : List Nat)).flatten := idx_atL (by simp [grdL]) (fun i h h' => by
    have hi : i < ts.length := by rw [hl] at h; exact h
    refine ⟨1, .slice none 0 0, ?_, ?_, ?_, ?_⟩
    · rw [Nat.zero_add, cell_of_block hB, (hc i hi).1, if_pos hi]
    · rw [Nat.zero_add, cell_of_block hB, (hc i hi).2]
    · simp only [grdL, List.getElem_map, kidsT]
      exact .inl ⟨rfl, rfl, none, 0, rfl⟩
    · simp [grdL, kidsT])
  have hf : (ts.map fun _ => ([] : List Nat)).flatten = [] := by simp
  rw [hf] at hat
  exact ⟨.inr ⟨M, 0, _, [], by rw [hl], by rw [hl]; exact hp, by rw [hl]; exact Nat.le_refl _, by rw [hl]; exact hm, hat, rfl⟩, by simp, fun b hb => by
    obtain rfl : b = M := by simpa using hb
    exact ⟨Nat.le_refl _, lt_of_block hB, fun o => frozen_of_block hB⟩⟩

end Go.Proofs.YtffmpjcjmffdeaaDoor

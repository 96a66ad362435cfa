/- Masks of types: the blurred types, and the loop that blurs them. -/
import Derived.Test.YtdehhobpfaaboaaDoorErA
import Derived.Test.YtdehhobpfaaboaaDoorWtA
import Derived.Test.YtdehhobpfaaboaaDoorTysT
namespace Go.Proofs.YtdehhobpfaaboaaDoor
open Go.RowKit

/-- The bit i of a mask, as the program and the specification compute it. -/
def bitB (m : Int) (i : Nat) : Bool := bits .and .i64 (m / 2 ^ i) 1 == 1
/-- A mask for n types. -/
def fitB (m : Int) (n : Nat) : Bool := decide (0 ≤ m) && decide (m < 2 ^ n)
/-- The types, the first j of them blurred where the mask says so. -/
def blurL (m : Int) (j : Nat) (L : List Ty) : List Ty := L.mapIdx fun i t => if i < j ∧ bitB m i = true then .mk 1 [] else t

theorem blurL_len (m : Int) (j : Nat) (L : List Ty) : (blurL m j L).length = L.length := by simp [blurL]
theorem blurL_get (m : Int) (j : Nat) (L : List Ty) (i : Nat) (h : i < (blurL m j L).length) (h' : i < L.length) : (blurL m j L)[i] = if i < j ∧ bitB m i = true then .mk 1 [] else L[i] := by simp [blurL]
theorem blurL_cnt (m : Int) (j : Nat) (L : List Ty) (B : Nat) (h : ∀ u ∈ L, u.cnt ≤ B) : ∀ u ∈ blurL m j L, u.cnt ≤ B := by
  intro u hu
  obtain ⟨i, hi, rfl⟩ := List.getElem_of_mem hu
  have hi' : i < L.length := by rw [blurL_len] at hi; exact hi
  rw [blurL_get m j L i hi hi']
  split
  · simp [Ty.cnt, cntL]
  · exact h _ (List.getElem_mem hi')

def blOk (m : Int) (t : Tm) : Bool := fitB m (tyLst t).length && wiOk (blurL m (tyLst t).length (tyLst t)) t
def blT (m : Int) (t : Tm) : Tm := if fitB m (tyLst t).length = true then wiM (blurL m (tyLst t).length (tyLst t)) t else zTm

theorem tysL_cnt_of {d : Nat} (h : ∀ t, shpM d t = true → ((tysOf t).length : Int) ≤ cntD d t) : ∀ ts : List Tm, ts.all (shpM d) = true → ((tysL ts).length : Int) ≤ sumL (cntD d) ts
  | [], _ => by simp [tysL, sumL]
  | t :: ts, ht => by
    rw [List.all_cons, Bool.and_eq_true] at ht
    have h1 := h t ht.1
    have h2 := tysL_cnt_of h ts ht.2
    simp only [tysL, sumL, List.length_append]
    omega

theorem tysOf_cntD : ∀ (d : Nat) (t : Tm), shpM d t = true → ((tysOf t).length : Int) ≤ cntD d t
  | 0, _, h => by simp [shpM] at h
  | d + 1, .mk k nm num ty fr lb ts, h => by
    simp only [shpM, Bool.and_eq_true] at h
    have hL := tysL_cnt_of (tysOf_cntD d) ts h.2
    simp only [tysOf, cntD, List.length_append]
    split
    · simp only [List.length_cons, List.length_nil]
      omega
    · simp only [List.length_nil]
      omega

theorem tyLst_30 (t : Tm) : (tyLst t).length ≤ 30 := by
  unfold tyLst
  split
  · next h =>
    simp only [vldM, Bool.and_eq_true, decide_eq_true_eq] at h
    have := tysOf_cntD 12 t h.1
    omega
  · simp

/-- A slice of the call's own, whose first j types have been blurred. -/
def BlI (B : Nat) (s : Value) (m : Int) (L : List Ty) (j : Nat) (w : World) : Prop := (L.length = 0 ∧ ∃ p c, s = .slice p 0 c) ∨ ∃ b o cap, s = .slice (some ⟨b, o, none⟩) L.length cap ∧ 0 < L.length ∧ L.length ≤ cap ∧ L.length ≤ maxLen ∧ B ≤ b ∧ b < w.heap.size ∧ (∀ q, w.frozen? ⟨b, q, none⟩ = false) ∧
  ∀ i (h : i < L.length), ∃ v0 v1 g, w.cell? ⟨b, o + i * 2, none⟩ = some v0 ∧ w.cell? ⟨b, o + i * 2 + 1, none⟩ = some v1 ∧ (∀ x ∈ g, x ≠ b) ∧ Ty.At w (if i < j ∧ bitB m i = true then .mk 1 [] else L[i]) (.agg #[v0, v1]) g

theorem BlI.start {B : Nat} {s : Value} {m : Int} {L : List Ty} {f : List Nat} {w : World} (h : SlAt w L s f) (hf : Fresh B w f) : BlI B s m L 0 w := by
  rcases h with ⟨rfl, _, p, c, rfl⟩ | ⟨b, o, cap, f', rfl, hp, hc, hm, hl, rfl⟩
  · exact .inl ⟨rfl, _, _, rfl⟩
  · refine .inr ⟨b, o, cap, rfl, hp, hc, hm, hf.ge b (by simp), (hf.2 b (by simp)).2.1, (hf.2 b (by simp)).2.2, fun i hi => ?_⟩
    obtain ⟨v0, v1, g, c0, c1, hat, hg⟩ := Ty.atL_get hl i hi
    refine ⟨v0, v1, g, c0, c1, fun x hx e => ?_, by rw [if_neg (by omega)]; exact hat⟩
    subst e
    exact (List.nodup_cons.1 hf.1).1 (hg x hx)

theorem BlI.below {B : Nat} {s : Value} {m : Int} {L : List Ty} {j : Nat} {w w' : World} (h : BlI B s m L j w) (hb : Below w.heap.size w w') : BlI B s m L j w' := by
  rcases h with h | ⟨b, o, cap, hs, hp, hc, hm, hB, hlt, hz, hx⟩
  · exact .inl h
  · refine .inr ⟨b, o, cap, hs, hp, hc, hm, hB, Nat.lt_of_lt_of_le hlt hb.size, fun q => (hb.frozen (p := ⟨b, q, none⟩) hlt).trans (hz q), fun i hi => ?_⟩
    obtain ⟨v0, v1, g, c0, c1, hg, hat⟩ := hx i hi
    exact ⟨v0, v1, g, cell_keep c0 hb, cell_keep c1 hb, hg, hat.below hb⟩

theorem BlI.skip {B : Nat} {s : Value} {m : Int} {L : List Ty} {j : Nat} {w : World} (h : BlI B s m L j w) (hb : bitB m j = false) : BlI B s m L (j + 1) w := by
  rcases h with h | ⟨b, o, cap, hs, hp, hc, hm, hB, hlt, hz, hx⟩
  · exact .inl h
  · refine .inr ⟨b, o, cap, hs, hp, hc, hm, hB, hlt, hz, fun i hi => ?_⟩
    obtain ⟨v0, v1, g, c0, c1, hg, hat⟩ := hx i hi
    refine ⟨v0, v1, g, c0, c1, hg, ?_⟩
    by_cases hij : i = j
    · subst hij
      rw [if_neg (by omega)] at hat
      rw [if_neg (by rw [hb]; simp)]
      exact hat
    · have e : (i < j + 1 ∧ bitB m i = true) = (i < j ∧ bitB m i = true) := by apply propext; constructor <;> rintro ⟨a, c⟩ <;> exact ⟨by omega, c⟩
      simp only [e]
      exact hat

theorem BlI.step {B : Nat} {m : Int} {L : List Ty} {j b o cap : Nat} {w : World} (h : BlI B (.slice (some ⟨b, o, none⟩) L.length cap) m L j w) (hj : j < L.length) (hbit : bitB m j = true) :
    BlI B (.slice (some ⟨b, o, none⟩) L.length cap) m L (j + 1) ((w.setCell ⟨b, o + j * 2, none⟩ (.int .i64 1)).setCell ⟨b, o + j * 2 + 1, none⟩ (.slice none 0 0)) := by
  rcases h with h | ⟨b', o', cap', hs, hp, hc, hm, hB, hlt, hz, hx⟩
  · omega
  cases hs
  refine .inr ⟨b, o, cap, rfl, hp, hc, hm, hB, by rw [size_setCell, size_setCell]; exact hlt, fun q => by rw [frozen_setCell, frozen_setCell]; exact hz q, fun i hi => ?_⟩
  obtain ⟨v0, v1, g, c0, c1, hg, hat⟩ := hx i hi
  by_cases hij : i = j
  · subst hij
    refine ⟨.int .i64 1, .slice none 0 0, [], (cell_setCell_other (by omega) _).trans (cell_setCell_self c0 _), cell_setCell_self ((cell_setCell_other (by omega) _).trans c1) _, by simp, ?_⟩
    rw [if_pos ⟨by omega, hbit⟩]
    exact Ty.at_mk.2 ⟨_, rfl, .inl ⟨rfl, rfl, _, _, rfl⟩⟩
  · refine ⟨v0, v1, g, (cell_setCell_other (by omega) _).trans ((cell_setCell_other (by omega) _).trans c0), (cell_setCell_other (by omega) _).trans ((cell_setCell_other (by omega) _).trans c1), hg, ?_⟩
    have e : (i < j + 1 ∧ bitB m i = true) = (i < j ∧ bitB m i = true) := by apply propext; constructor <;> rintro ⟨a, c⟩ <;> exact ⟨by omega, c⟩
    simp only [e]
    exact (hat.setCell (a := ⟨b, o + j * 2, none⟩) hg _).setCell (a := ⟨b, o + j * 2 + 1, none⟩) hg _

theorem BlI.done {B : Nat} {s : Value} {m : Int} {L : List Ty} {w : World} (h : BlI B s m L L.length w) : ∃ f, SlAt w (blurL m L.length L) s f := by
  rcases h with ⟨h0, p, c, rfl⟩ | ⟨b, o, cap, rfl, hp, hc, hm, hB, hlt, hz, hx⟩
  · have e : blurL m L.length L = [] := List.length_eq_zero_iff.1 (by rw [blurL_len, h0])
    exact ⟨[], .inl ⟨e, rfl, _, _, rfl⟩⟩
  · have hx' : ∀ i (h : i < L.length), ∃ g, Elem w b o i (if i < L.length ∧ bitB m i = true then .mk 1 [] else L[i]) g := fun i hi => by
      obtain ⟨v0, v1, g, c0, c1, hg, hat⟩ := hx i hi
      exact ⟨g, elem_of c0 c1 hat⟩
    obtain ⟨G, hG⟩ : ∃ G : Nat → List Nat, ∀ i (h : i < L.length), Elem w b o i (if i < L.length ∧ bitB m i = true then .mk 1 [] else L[i]) (G i) :=
      ⟨fun i => if h : i < L.length then Classical.choose (hx' i h) else [], fun i h => by simp only [dif_pos h]; exact Classical.choose_spec (hx' i h)⟩
    have hat : Ty.AtL w (blurL m L.length L) b o (((List.range L.length).map G)).flatten := idx_atL (by rw [blurL_len]; simp) (fun i h h' => by
      have hi : i < L.length := by rw [blurL_len] at h; exact h
      rw [blurL_get m _ L i h hi]
      simp only [List.getElem_map, List.getElem_range]
      exact hG i hi)
    exact ⟨_, .inr ⟨b, o, cap, _, by rw [blurL_len], by rw [blurL_len]; exact hp, by rw [blurL_len]; exact hc, by rw [blurL_len]; exact hm, hat, rfl⟩⟩
end Go.Proofs.YtdehhobpfaaboaaDoor

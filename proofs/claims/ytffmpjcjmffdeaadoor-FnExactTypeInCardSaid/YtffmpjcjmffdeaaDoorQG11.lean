/- The program's copyType, at valid types and at the zero type. The ground type of a kind: the program's groundOfKind. The program's copies, meets and joins. Well-formed types of at most a depth, beside chapter 6. The relations of chapter 8 as plain functions: what a cast between two types cannot blame (p = 1: its own label; -1: the negation of it; 0: neither). Precision, consistency and the relations of chapter 8: the laws of order, plainly. The program's MeetTypes and JoinTypes. Precision, depth and the number of unknowns: plainly. Meets, plainly: static types, and the number of unknowns. Meets absorb joins, plainly. The order of types, plainly: what the drawn laws on meets, joins, ground types, static types and the relations of chapter 8 want. The specification's MeetTypes. -/
import Derived.Test.YtffmpjcjmffdeaaDoorQWalkT
import Derived.Test.YtffmpjcjmffdeaaDoorQG1
import Derived.Test.YtffmpjcjmffdeaaDoorQPkA
import Derived.Test.YtffmpjcjmffdeaaDoorQG7
namespace Go.Proofs.YtffmpjcjmffdeaaDoor
open Go.RowKit

def unkT : Ty → Ty → Ty := fun _ _ => .mk 1 []

theorem wf_any {ts : List Ty} (h : wf (.mk 1 ts)) : ts = [] := by
  have := (wf_mk h).1
  have : ts.length = 0 := by
    have e : kidsOf 1 = 0 := rfl
    omega
  exact List.length_eq_zero_iff.1 this

mutual
theorem wkT_copy : ∀ t : Ty, wf t → wkT unkT t t = t
  | .mk k ts, h => by
    simp only [wkT]
    by_cases hk : k = 1
    · subst hk
      obtain rfl := wf_any h
      simp [unkT]
    · rw [if_neg (by simp [hk]), wkTL_copy ts (wf_mk h).2]
theorem wkTL_copy : ∀ ts : List Ty, (∀ t ∈ ts, wf t) → wkTL unkT ts ts = ts
  | [], _ => by simp only [wkTL]
  | t :: ts, h => by simp only [wkTL]; rw [wkT_copy t (h t (by simp)), wkTL_copy ts (fun u hu => h u (by simp [hu]))]
end

set_option maxRecDepth 100000 in
theorem callOk_unknown : CallOkT 119 := fun _ _ => by kernel_rfl

set_option maxHeartbeats 400000 in
theorem unknown_any : ApT 119 unkT := by
  intro t u v1 v2 f1 f2 w h1 h2 _ _
  obtain ⟨k, m, a, cap, rfl⟩ := h1.agg
  obtain ⟨k', m', a', cap', rfl⟩ := h2.agg
  have hM : w.heap.size + 1 + 1 < (((w.alloc (Obj.cells #[.int .i64 k, .slice a m cap] 32)).alloc (Obj.cells #[.int .i64 k', .slice a' m' cap'] 32)).alloc (Obj.cells #[.int .i64 0, .slice none 0 0] 32)).heap.size := by simp
  have hbb := (((((Below.refl w.heap.size w).alloc (Nat.le_refl _) (Obj.cells #[.int .i64 k, .slice a m cap] 32)).alloc (by simp) (Obj.cells #[.int .i64 k', .slice a' m' cap'] 32)).alloc (by simp; omega) (Obj.cells #[.int .i64 0, .slice none 0 0] 32)).setCell (p := ⟨w.heap.size + 1 + 1, 0, none⟩) (by simp; omega) (.int .i64 1)).setCell (p := ⟨w.heap.size + 1 + 1, 1, none⟩) (by simp; omega) (.slice none 0 0)
  go_enter Tryd.func119, Tryd.ntmps119
  go_wp2_with fail
  exact bodyPost_ret (v := .agg #[.int .i64 1, .slice none 0 0]) (by simp [results, Tryd.results119, go_sem]) rfl ⟨_, [], rfl, Ty.at_mk.2 ⟨_, rfl, .inl ⟨rfl, rfl, none, 0, rfl⟩⟩, Fresh.nil _ _, by first | exact hbb | exact (((Below.refl _ _).alloc (Nat.le_refl _) _).alloc (by simp) _).alloc (by simp; omega) _⟩

theorem boxes2 {w wr : World} {x y x2 y2 : Value} {T T2 : TypeId} (h : Below ((w.alloc (Obj.cells #[x, y] T)).alloc (Obj.cells #[x2, y2] T2)).heap.size ((w.alloc (Obj.cells #[x, y] T)).alloc (Obj.cells #[x2, y2] T2)) wr) :
    wr.cell? ⟨w.heap.size, 0, none⟩ = some x ∧ wr.cell? ⟨w.heap.size, 1, none⟩ = some y ∧ wr.cell? ⟨w.heap.size + 1, 0, none⟩ = some x2 ∧ wr.cell? ⟨w.heap.size + 1, 1, none⟩ = some y2 ∧ ∀ o, wr.frozen? ⟨w.heap.size + 1, o, none⟩ = false := by
  obtain ⟨a, b, c, d⟩ := box_cells2 h
  have hs : (w.alloc (Obj.cells #[x, y] T)).heap.size = w.heap.size + 1 := by simp
  have h1 : wr.heap[w.heap.size + 1]? = some (Obj.cells #[x2, y2] T2) := by
    rw [h.block (w.heap.size + 1) (by simp), ← hs]
    exact alloc_new _ _
  exact ⟨a, b, c, d, fun o => frozen_of_block h1⟩

set_option maxRecDepth 100000 in
set_option maxHeartbeats 800000 in
theorem copyType_any (t : Ty) (v : Value) (fp : List Nat) (w : World) (h : t.At w v fp) (hw : wf t) : Calls Tryd.prog 63 #[v] w (MadeT w t) := by
  obtain ⟨k, m, a, cap, rfl⟩ := h.agg
  have hB := (((Below.refl w.heap.size w).alloc (Nat.le_refl _) (Obj.cells #[.int .i64 k, .slice a m cap] 32)).alloc (by simp) (Obj.cells #[.int .i64 0, .slice none 0 0] 32))
  have HT := hid (wkT_copy t hw)
  go_enter Tryd.func63, Tryd.ntmps63
  go_wp2_with fail
  refine (walkT_any _ _ unknown_any callOk_unknown t t _ _ _ _ _ (h.below hB) (h.below hB) hw hw).mono ?_
  rw [HT.out]
  rintro e w1 ⟨v, f, rfl, hat, hf, hb⟩
  obtain ⟨kr, nr, ar, capr, rfl⟩ := hat.agg
  obtain ⟨x0, x1, r0, r1, rz⟩ := boxes2 hb
  have hM : w.heap.size + 1 < w1.heap.size := by have := hb.size; simp at this; omega
  have hbb := ((alloc2 hb).setCell (p := ⟨w.heap.size + 1, 0, none⟩) (by simp) (.int .i64 kr)).setCell (p := ⟨w.heap.size + 1, 1, none⟩) (by simp) (.slice ar nr capr)
  have hkr := keepR (R := w.heap.size + 1) (x := .int .i64 kr) (y := .slice ar nr capr) hat hf (by simp)
  go_wp2_with fail
  exact bodyPost_ret (v := .agg #[.int .i64 kr, .slice ar nr capr]) (by simp [results, Tryd.results63, go_sem, r0, r1]) rfl ⟨_, f, rfl, hkr.1, hkr.2.mono (by simp; omega), hbb⟩

end Go.Proofs.YtffmpjcjmffdeaaDoor

namespace Go.Proofs.YtffmpjcjmffdeaaDoor
open Go.RowKit

/-- The ground type of a kind. -/
def gk (k : Int) : Ty := .mk k (if k = 4 ∨ k = 5 then [.mk 1 [], .mk 1 []] else [])

/-- A new block of zero types of which the first j kinds have been set. -/
def Kinds (M n j : Nat) (wr : World) : Prop :=
  ∃ C : Array Value, wr.heap[M]? = some (.cells C 32 (0, 0)) ∧ C.size = n * 2 ∧ ∀ i, i < n → C[i * 2]? = some (.int .i64 (if i < j then 1 else 0)) ∧ C[i * 2 + 1]? = some (.slice none 0 0)

theorem Kinds.set {M n j : Nat} {w : World} (h : Kinds M n j w) (hj : j < n) : Kinds M n (j + 1) (w.setCell ⟨M, j * 2, none⟩ (.int .i64 1)) := by
  obtain ⟨C, hB, hC, hc⟩ := h
  refine ⟨_, heap_setCell_at hB _, by simp [hC], fun i hi => ⟨?_, ?_⟩⟩
  · by_cases hij : i = j
    · subst hij
      rw [if_pos (by omega)]
      simp [Array.getElem?_setIfInBounds, hC]
      omega
    · rw [Array.getElem?_setIfInBounds_ne (by omega), (hc i hi).1]
      by_cases h : i < j
      · rw [if_pos h, if_pos (by omega)]
      · rw [if_neg h, if_neg (by omega)]
  · rw [Array.getElem?_setIfInBounds_ne (by omega)]
    exact (hc i hi).2

theorem Kinds.done {M : Nat} {ts : List Ty} {w : World} (h : Kinds M ts.length ts.length w) (hp : 0 < ts.length) (hm : ts.length ≤ maxLen) : SlAt w (grdL ts) (.slice (some ⟨M, 0, none⟩) ts.length ts.length) [M] ∧ Fresh M w [M] := by
  obtain ⟨C, hB, hC, hc⟩ := h
  have hl : (grdL ts).length = ts.length := by simp [grdL]
  have hat : Ty.AtL w (grdL ts) M 0 (ts.map fun _ => ([] : List Nat)).flatten := idx_atL (by simp [grdL]) (fun i h h' => by
    have hi : i < ts.length := by rw [hl] at h; exact h
    refine ⟨1, .slice none 0 0, ?_, ?_, ?_, ?_⟩
    · rw [Nat.zero_add, cell_of_block hB, (hc i hi).1, if_pos hi]
    · rw [Nat.zero_add, cell_of_block hB, (hc i hi).2]
    · simp only [grdL, List.getElem_map, kidsT]
      exact .inl ⟨rfl, rfl, none, 0, rfl⟩
    · simp [grdL, kidsT])
  have hf : (ts.map fun _ => ([] : List Nat)).flatten = [] := by simp
  rw [hf] at hat
  exact ⟨.inr ⟨M, 0, _, [], by rw [hl], by rw [hl]; exact hp, by rw [hl]; exact Nat.le_refl _, by rw [hl]; exact hm, hat, rfl⟩, by simp, fun b hb => by
    obtain rfl : b = M := by simpa using hb
    exact ⟨Nat.le_refl _, lt_of_block hB, fun o => frozen_of_block hB⟩⟩

end Go.Proofs.YtffmpjcjmffdeaaDoor

namespace Go.Proofs.YtffmpjcjmffdeaaDoor
open Go.RowKit

def knownT : Ty → Ty → Ty
  | .mk k ts, u => if k = 1 then u else .mk k ts



mutual
theorem wkT_meet : ∀ t u : Ty, cons t u = true → wkT knownT t u = meet t u
  | .mk k ts, .mk k' us, hc => by
    simp only [wkT, meet, cons] at *
    by_cases hk : k = 1
    · subst hk
      simp [knownT]
    · by_cases hk' : k' = 1
      · subst hk'
        simp [knownT, hk]
      · rw [if_neg (by simp [hk, hk'])] at hc
        by_cases hkk : k = k'
        · subst hkk
          rw [if_pos rfl] at hc
          rw [if_neg (by simp [hk]), if_neg hk, if_neg hk, wkTL_meet ts us hc]
        · rw [if_neg hkk] at hc
          cases hc
theorem wkTL_meet : ∀ ts us : List Ty, consL ts us = true → wkTL knownT ts us = meetL ts us
  | [], _, _ => by simp only [wkTL, meetL]
  | _ :: _, [], _ => by simp only [wkTL, meetL]
  | t :: ts, u :: us, h => by
    simp only [consL, Bool.and_eq_true] at h
    simp only [wkTL, meetL]
    rw [wkT_meet t u h.1, wkTL_meet ts us h.2]
end

theorem callOk_known : CallOkT 127 := fun _ _ => by kernel_rfl

set_option maxHeartbeats 800000 in
theorem known_any : ApT 127 knownT := by
  intro t u v1 v2 f1 f2 w h1 h2 hw1 hw2
  obtain ⟨k, ts, rfl⟩ := t.shape
  obtain ⟨s, rfl, hs⟩ := Ty.at_mk.1 h1
  obtain ⟨a, cap, rfl⟩ := hs.shape
  obtain ⟨k', m', a', cap', rfl⟩ := h2.agg
  generalize ts.length = m at *
  have hB := ((((Below.refl w.heap.size w).alloc (Nat.le_refl _) (Obj.cells #[.int .i64 k, .slice a m cap] 32)).alloc (by simp) (Obj.cells #[.int .i64 k', .slice a' m' cap'] 32)).alloc (by simp; omega) (Obj.cells #[.int .i64 0, .slice none 0 0] 32))
  by_cases hk : k = 1
  · have HT := hid (show knownT (.mk k ts) u = u by simp [knownT, hk])
    subst hk
    go_enter Tryd.func127, Tryd.ntmps127
    go_wp2_with fail
    refine (copyType_any u _ _ _ (h2.below hB) hw2).mono ?_
    rintro e w1 ⟨v, f, rfl, hat, hf, hb⟩
    obtain ⟨kr, nr, ar, capr, rfl⟩ := hat.agg
    obtain ⟨x0, x1, x2, x3, r0, r1, rz⟩ := boxes3 hb
    have hM : w.heap.size + 1 + 1 < w1.heap.size := by have := hb.size; simp at this; omega
    have hbb := ((alloc3 hb).setCell (p := ⟨w.heap.size + 1 + 1, 0, none⟩) (by simp; omega) (.int .i64 kr)).setCell (p := ⟨w.heap.size + 1 + 1, 1, none⟩) (by simp; omega) (.slice ar nr capr)
    have hkr := keepR (R := w.heap.size + 1 + 1) (x := .int .i64 kr) (y := .slice ar nr capr) hat hf (by simp)
    go_wp2_with fail
    exact bodyPost_ret (v := .agg #[.int .i64 kr, .slice ar nr capr]) (by simp [results, Tryd.results127, go_sem, r0, r1]) rfl ⟨_, f, rfl, by rw [HT.out]; exact hkr.1, hkr.2.mono (by simp; omega), hbb⟩
  · have HT := hid (show knownT (.mk k ts) u = .mk k ts by simp [knownT, hk])
    have hk1 : (k == 1) = false := by simpa using hk
    clear hk
    go_enter Tryd.func127, Tryd.ntmps127
    go_wp2_with fail
    refine (copyType_any (.mk k ts) _ _ _ (h1.below hB) hw1).mono ?_
    rintro e w1 ⟨v, f, rfl, hat, hf, hb⟩
    obtain ⟨kr, nr, ar, capr, rfl⟩ := hat.agg
    obtain ⟨x0, x1, x2, x3, r0, r1, rz⟩ := boxes3 hb
    have hM : w.heap.size + 1 + 1 < w1.heap.size := by have := hb.size; simp at this; omega
    have hbb := ((alloc3 hb).setCell (p := ⟨w.heap.size + 1 + 1, 0, none⟩) (by simp; omega) (.int .i64 kr)).setCell (p := ⟨w.heap.size + 1 + 1, 1, none⟩) (by simp; omega) (.slice ar nr capr)
    have hkr := keepR (R := w.heap.size + 1 + 1) (x := .int .i64 kr) (y := .slice ar nr capr) hat hf (by simp)
    go_wp2_with fail
    exact bodyPost_ret (v := .agg #[.int .i64 kr, .slice ar nr capr]) (by simp [results, Tryd.results127, go_sem, r0, r1]) rfl ⟨_, f, rfl, by rw [HT.out]; exact hkr.1, hkr.2.mono (by simp; omega), hbb⟩

/-- What a call says that hands back a tree and whether there is one. -/
def MadeTB (w : World) (t : Ty) (ok : Bool) (e : Ending) (w' : World) : Prop := ∃ v fp, e = .returned (.tuple #[v, .bool ok]) ∧ t.At w' v fp ∧ Fresh w.heap.size w' fp ∧ Below w.heap.size w w'

def meetOf (t u : Ty) : Ty := if consOf t u then meet t u else .mk 0 []
end Go.Proofs.YtffmpjcjmffdeaaDoor

namespace Go.Proofs.YtffmpjcjmffdeaaDoor
open Go.RowKit

def kidsT8 : Ty → List Ty
  | .mk _ ts => ts

theorem shp_small8 : ∀ {d : Nat} {t : Ty}, shp d t = true → t.cnt + 2 ≤ 2 ^ (d + 1)
  | 0, _, h => by simp [shp] at h
  | d + 1, .mk k ts, h => by
    have hp : 0 < 2 ^ d := Nat.pow_pos (by omega)
    rcases shp_cases h with ⟨rfl, _⟩ | ⟨a, b, rfl, _, ha, hb⟩
    · simp only [Ty.cnt, cntL, List.length_nil, Nat.pow_succ]
      omega
    · have h1 := shp_small8 ha
      have h2 := shp_small8 hb
      simp only [Ty.cnt, cntL, List.length_cons, List.length_nil, Nat.pow_succ] at *
      omega

theorem shp_cnt8 {d : Nat} {t : Ty} (h : shp d t = true) (hd : d ≤ 4) : t.cnt ≤ 1048576 := by
  have h1 := shp_small8 h
  have h2 : 2 ^ (d + 1) ≤ 2 ^ 5 := Nat.pow_le_pow_right (by omega) (by omega)
  omega

end Go.Proofs.YtffmpjcjmffdeaaDoor

namespace Go.Proofs.YtffmpjcjmffdeaaDoor
open Go.RowKit

/-- The operands of two types of the same kind. -/
def subS (f : Int → Ty → Ty → Bool) (p k : Int) : List Ty → List Ty → Bool
  | [x, y], [x', y'] => if k = 4 then f (-p) x' x && f p y y' else f p x x' && f p y y'
  | _, _ => true

/-- The relation, for types of at most a depth. -/
def sub : Nat → Int → Ty → Ty → Bool
  | 0, _, _, _ => true
  | d + 1, p, a, b =>
    if kindT a = 1 then (kindT b == 1) || (p == -1)
    else if kindT b = 1 then (p == 1) || subS (sub d) p (kindT a) (kidsT8 a) (kidsT8 (gk (kindT a)))
    else if kindT a = kindT b then subS (sub d) p (kindT a) (kidsT8 a) (kidsT8 b)
    else false

/-- Two types of one kind, none of them unknown: leaves, or two operands each. -/
inductive SameK (d : Nat) : Ty → Ty → Prop
  | leaf (k : Int) (h : k = 2 ∨ k = 3) : SameK d (.mk k []) (.mk k [])
  | two (k : Int) (x y x' y' : Ty) (h : k = 4 ∨ k = 5) (hx : shp d x = true) (hy : shp d y = true) (hx' : shp d x' = true) (hy' : shp d y' = true) : SameK d (.mk k [x, y]) (.mk k [x', y'])

theorem sameK_of {d : Nat} {a b : Ty} (ha : shp (d + 1) a = true) (hb : shp (d + 1) b = true) (h1 : kindT a ≠ 1) (h : kindT a = kindT b) : SameK d a b := by
  obtain ⟨k, ts, rfl⟩ := a.shape
  obtain ⟨k', us, rfl⟩ := b.shape
  obtain rfl : k = k' := h
  have h1' : k ≠ 1 := h1
  rcases shp_cases ha with ⟨rfl, hk⟩ | ⟨x, y, rfl, hk, hx, hy⟩
  · rcases shp_cases hb with ⟨rfl, _⟩ | ⟨x', y', rfl, hk', _⟩
    · exact .leaf k (by omega)
    · omega
  · rcases shp_cases hb with ⟨rfl, hk'⟩ | ⟨x', y', rfl, _, hx', hy'⟩
    · omega
    · exact .two k x y x' y' hk hx hy hx' hy'

end Go.Proofs.YtffmpjcjmffdeaaDoor

namespace Go.Proofs.YtffmpjcjmffdeaaDoor
open Go.RowKit

/-- The ways in which two well-formed types can stand to each other. -/
theorem rel_cases {d : Nat} {a b : Ty} (ha : shp (d + 1) a = true) (hb : shp (d + 1) b = true) : kindT a = 1 ∨ kindT b = 1 ∨ (kindT a ≠ 1 ∧ kindT b ≠ 1 ∧ kindT a ≠ kindT b) ∨ (kindT a ≠ 1 ∧ kindT b ≠ 1 ∧ SameK d a b) := by
  by_cases h1 : kindT a = 1
  · exact .inl h1
  by_cases h2 : kindT b = 1
  · exact .inr (.inl h2)
  by_cases h3 : kindT a = kindT b
  · exact .inr (.inr (.inr ⟨h1, h2, sameK_of ha hb h1 h3⟩))
  · exact .inr (.inr (.inl ⟨h1, h2, h3⟩))

theorem prec_any {a b : Ty} (h : kindT b = 1) : prec a b = true := by
  obtain ⟨k, ts, rfl⟩ := a.shape
  obtain ⟨k', us, rfl⟩ := b.shape
  simp [prec, show k' = 1 from h]
theorem prec_diff {a b : Ty} (h : kindT b ≠ 1) (he : kindT a ≠ kindT b) : prec a b = false := by
  obtain ⟨k, ts, rfl⟩ := a.shape
  obtain ⟨k', us, rfl⟩ := b.shape
  have h1 : ¬ k' = 1 := h
  have h2 : ¬ k = k' := he
  simp [prec, h1, h2]
theorem prec_two {k : Int} {x y x' y' : Ty} (hk : k = 4 ∨ k = 5) : prec (.mk k [x, y]) (.mk k [x', y']) = (prec x x' && prec y y') := by
  have : ¬ k = 1 := by omega
  simp [prec, precL, this]
theorem prec_leaf {k : Int} : prec (.mk k []) (.mk k []) = true := by
  by_cases h : k = 1 <;> simp [prec, precL, h]
theorem cons_any {a b : Ty} (h : kindT a = 1 ∨ kindT b = 1) : cons a b = true := by
  obtain ⟨k, ts, rfl⟩ := a.shape
  obtain ⟨k', us, rfl⟩ := b.shape
  have : k = 1 ∨ k' = 1 := h
  simp [cons, this]
theorem cons_diff {a b : Ty} (h1 : kindT a ≠ 1) (h2 : kindT b ≠ 1) (he : kindT a ≠ kindT b) : cons a b = false := by
  obtain ⟨k, ts, rfl⟩ := a.shape
  obtain ⟨k', us, rfl⟩ := b.shape
  have g1 : ¬ k = 1 := h1
  have g2 : ¬ k' = 1 := h2
  have g3 : ¬ k = k' := he
  simp [cons, g1, g2, g3]
theorem cons_two {k : Int} {x y x' y' : Ty} (hk : k = 4 ∨ k = 5) : cons (.mk k [x, y]) (.mk k [x', y']) = (cons x x' && cons y y') := by
  have : ¬ k = 1 := by omega
  simp [cons, consL, this]
theorem cons_leaf {k : Int} : cons (.mk k []) (.mk k []) = true := by
  by_cases h : k = 1 <;> simp [cons, consL, h]

/-- What is more precise has the same kind, or the other one is unknown. -/
theorem prec_kind {a b : Ty} (h : prec a b = true) : kindT b = 1 ∨ kindT a = kindT b := by
  by_cases h1 : kindT b = 1
  · exact .inl h1
  by_cases h2 : kindT a = kindT b
  · exact .inr h2
  · rw [prec_diff h1 h2] at h; cases h

/-- Consistency does not look at the order. -/
theorem cons_comm8 : ∀ (d : Nat) (a b : Ty), shp d a = true → shp d b = true → cons a b = true → cons b a = true
  | 0, a, _, ha, _, _ => by simp [shp] at ha
  | d + 1, a, b, ha, hb, h => by
    rcases rel_cases ha hb with h1 | h1 | ⟨h1, h2, h3⟩ | ⟨h1, h2, hs⟩
    · exact cons_any (.inr h1)
    · exact cons_any (.inl h1)
    · rw [cons_diff h1 h2 h3] at h; cases h
    · cases hs with
      | leaf k hk => exact cons_leaf
      | two k x y x' y' hk hx hy hx' hy' =>
        rw [cons_two hk, Bool.and_eq_true] at h ⊢
        exact ⟨cons_comm8 d _ _ hx hx' h.1, cons_comm8 d _ _ hy hy' h.2⟩

theorem prec_cons : ∀ (d : Nat) (a b : Ty), shp d a = true → shp d b = true → prec a b = true → cons a b = true
  | 0, a, _, ha, _, _ => by simp [shp] at ha
  | d + 1, a, b, ha, hb, h => by
    rcases rel_cases ha hb with h1 | h1 | ⟨h1, h2, h3⟩ | ⟨h1, h2, hs⟩
    · exact cons_any (.inl h1)
    · exact cons_any (.inr h1)
    · rw [prec_diff h2 h3] at h; cases h
    · cases hs with
      | leaf k hk => exact cons_leaf
      | two k x y x' y' hk hx hy hx' hy' =>
        rw [prec_two hk, Bool.and_eq_true] at h
        rw [cons_two hk, Bool.and_eq_true]
        exact ⟨prec_cons d _ _ hx hx' h.1, prec_cons d _ _ hy hy' h.2⟩

end Go.Proofs.YtffmpjcjmffdeaaDoor

namespace Go.Proofs.YtffmpjcjmffdeaaDoor
open Go.RowKit

set_option maxHeartbeats 800000 in
theorem implMeetTypes (t u : Ty) (v1 v2 : Value) (f1 f2 : List Nat) (w : World) (h1 : t.At w v1 f1) (h2 : u.At w v2 f2) (hn1 : t.cnt ≤ 1048576) (hn2 : u.cnt ≤ 1048576) :
    Calls Tryd.prog 77 #[v1, v2] w (MadeTB w (meetOf t u) (consOf t u)) := by
  obtain ⟨k, m, a, cap, rfl⟩ := h1.agg
  obtain ⟨k', m', a', cap', rfl⟩ := h2.agg
  have hB := ((((Below.refl w.heap.size w).alloc (Nat.le_refl _) (Obj.cells #[.int .i64 k, .slice a m cap] 32)).alloc (by simp) (Obj.cells #[.int .i64 k', .slice a' m' cap'] 32)).alloc (by simp; omega) (Obj.cells #[.int .i64 0, .slice none 0 0] 32))
  have HN1 := hid hn1
  have HN2 := hid hn2
  clear hn1 hn2
  cases hv : consOf t u with
  | false =>
    have HT := hid (show meetOf t u = .mk 0 [] by simp [meetOf, hv])
    have HV := hid hv
    clear hv
    go_enter Tryd.func77, Tryd.ntmps77
    go_wp2_with fail
    refine (implConsistent t u _ _ _ _ _ (h1.below hB) (h2.below hB)).mono ?_
    rintro e w1 ⟨he, hb3⟩
    rw [HV.out] at he
    subst he
    obtain ⟨x0, x1, x2, x3, r0, r1, rz⟩ := boxes3 hb3
    have hM : w.heap.size + 1 + 1 < w1.heap.size := by have := hb3.size; simp at this; omega
    have hbb := ((alloc3 hb3).setCell (p := ⟨w.heap.size + 1 + 1, 0, none⟩) (by simp; omega) (.int .i64 0)).setCell (p := ⟨w.heap.size + 1 + 1, 1, none⟩) (by simp; omega) (.slice none 0 0)
    go_wp2_with fail
    exact bodyPost_ret (v := .tuple #[.agg #[.int .i64 0, .slice none 0 0], .bool false]) (by simp [results, Tryd.results77, go_sem, r0, r1]) rfl ⟨_, [], rfl, by rw [HT.out]; exact Ty.at_mk.2 ⟨_, rfl, .inl ⟨rfl, rfl, none, 0, rfl⟩⟩, Fresh.nil _ _, hbb⟩
  | true =>
    have HT := hid (show meetOf t u = meet t u by simp [meetOf, hv])
    have hv3 := hv
    simp only [consOf, Bool.and_eq_true] at hv3
    have HW1 := hid (wf_of_vld hv3.1.1)
    have HW2 := hid (wf_of_vld hv3.1.2)
    have HC := hid hv3.2
    have HV := hid hv
    clear hv hv3
    go_enter Tryd.func77, Tryd.ntmps77
    go_wp2_with fail
    refine (implConsistent t u _ _ _ _ _ (h1.below hB) (h2.below hB)).mono ?_
    rintro e w1 ⟨he, hb3⟩
    rw [HV.out] at he
    subst he
    obtain ⟨x0, x1, x2, x3, r0, r1, rz⟩ := boxes3 hb3
    go_wp2_with fail
    refine (walkT_any _ _ known_any callOk_known t u _ _ _ _ _ ((h1.below hB).below hb3) ((h2.below hB).below hb3) HW1.out HW2.out).mono ?_
    rw [wkT_meet t u HC.out]
    rintro e wr ⟨v, f, rfl, hat, hf, hbr⟩
    clear x0 x1 x2 x3 r0 r1 rz
    obtain ⟨kr, nr, ar, capr, rfl⟩ := hat.agg
    have hb4 := hb3.trans (hbr.mono hb3.size)
    obtain ⟨x0, x1, x2, x3, r0, r1, rz⟩ := boxes3 hb4
    have hM : w.heap.size + 1 + 1 < wr.heap.size := by have := hb4.size; simp at this; omega
    have hbb := ((alloc3 hb4).setCell (p := ⟨w.heap.size + 1 + 1, 0, none⟩) (by simp; omega) (.int .i64 kr)).setCell (p := ⟨w.heap.size + 1 + 1, 1, none⟩) (by simp; omega) (.slice ar nr capr)
    have hkr := keepR (R := w.heap.size + 1 + 1) (x := .int .i64 kr) (y := .slice ar nr capr) hat hf (by have := hb3.size; simp at this; omega)
    go_wp2_with fail
    exact bodyPost_ret (v := .tuple #[.agg #[.int .i64 kr, .slice ar nr capr], .bool true]) (by simp [results, Tryd.results77, go_sem, r0, r1]) rfl ⟨_, f, rfl, by rw [HT.out]; exact hkr.1, hkr.2.mono (by have := hb3.size; simp at this; omega), hbb⟩

end Go.Proofs.YtffmpjcjmffdeaaDoor

namespace Go.Proofs.YtffmpjcjmffdeaaDoor
open Go.RowKit

theorem any_only9 {d : Nat} {a : Ty} (ha : shp (d + 1) a = true) (h : kindT a = 1) : a = .mk 1 [] := by
  obtain ⟨k, ts, rfl⟩ := a.shape
  have hk : k = 1 := h
  subst hk
  simp only [shp, Bool.and_eq_true, beq_iff_eq] at ha
  have h0 : kidsOf 1 = 0 := by decide
  have : ts.length = 0 := by omega
  rw [List.length_eq_zero_iff.1 this]

end Go.Proofs.YtffmpjcjmffdeaaDoor

namespace Go.Proofs.YtffmpjcjmffdeaaDoor
open Go.RowKit


theorem meet_any1 (b : Ty) : meet (.mk 1 []) b = b := by
  obtain ⟨k, ts, rfl⟩ := b.shape
  simp [meet]

theorem meet_any2 {a : Ty} (h : kindT a ≠ 1) : meet a (.mk 1 []) = a := by
  obtain ⟨k, ts, rfl⟩ := a.shape
  have hk : k ≠ 1 := h
  simp [meet, hk]

theorem meet_two {k : Int} (hk : k ≠ 1) (x y x' y' : Ty) : meet (.mk k [x, y]) (.mk k [x', y']) = .mk k [meet x x', meet y y'] := by
  simp [meet, meetL, hk]

theorem meet_leaf {k : Int} (hk : k ≠ 1) : meet (.mk k []) (.mk k []) = .mk k [] := by
  simp [meet, meetL, hk]

end Go.Proofs.YtffmpjcjmffdeaaDoor

namespace Go.Proofs.YtffmpjcjmffdeaaDoor
open Go.RowKit


theorem meet_unk (a : Ty) {d : Nat} (ha : shp (d + 1) a = true) : meet a (.mk 1 []) = a := by
  by_cases h : kindT a = 1
  · rw [any_only9 ha h, meet_any1]
  · exact meet_any2 h

end Go.Proofs.YtffmpjcjmffdeaaDoor

namespace Go.Proofs.YtffmpjcjmffdeaaDoor
open Go.RowKit

mutual
theorem tyEq_eq : ∀ (t u : Ty), tyEq t u = true → t = u
  | .mk k ts, .mk k' us, h => by
    simp only [tyEq, Bool.and_eq_true, beq_iff_eq] at h
    rw [h.1, tyEqL_eq ts us h.2]
theorem tyEqL_eq : ∀ (ts us : List Ty), tyEqL ts us = true → ts = us
  | [], [], _ => rfl
  | [], _ :: _, h => by simp [tyEqL] at h
  | _ :: _, [], h => by simp [tyEqL] at h
  | t :: ts, u :: us, h => by
    simp only [tyEqL, Bool.and_eq_true] at h
    rw [tyEq_eq t u h.1, tyEqL_eq ts us h.2]
end

theorem tyEq_ne {t u : Ty} (h : t ≠ u) : tyEq t u = false := by
  cases he : tyEq t u with
  | false => rfl
  | true => exact absurd (tyEq_eq t u he) h

theorem prec_refl8 : ∀ (d : Nat) (a : Ty), shp d a = true → prec a a = true
  | 0, a, ha => by simp [shp] at ha
  | d + 1, a, ha => by
    by_cases ha1 : kindT a = 1
    · exact prec_any ha1
    · cases sameK_of ha ha ha1 rfl with
      | leaf k hk => exact prec_leaf
      | two k x y x' y' hk hx hy hx' hy' => rw [prec_two hk, prec_refl8 d x hx, prec_refl8 d y hy]; rfl

/-- What is at least as precise as a type that is not unknown has its kind. -/
theorem prec_same {d : Nat} {c a : Ty} (hc : shp (d + 1) c = true) (ha : shp (d + 1) a = true) (ha1 : kindT a ≠ 1) (h : prec c a = true) : kindT c ≠ 1 ∧ kindT c = kindT a ∧ SameK d c a := by
  rcases prec_kind h with h1 | h1
  · exact absurd h1 ha1
  · have hc1 : kindT c ≠ 1 := by rw [h1]; exact ha1
    exact ⟨hc1, h1, sameK_of hc ha hc1 h1⟩

theorem shp_two8 {d : Nat} {k : Int} {x y : Ty} (hk : k = 4 ∨ k = 5) (hx : shp d x = true) (hy : shp d y = true) : shp (d + 1) (.mk k [x, y]) = true := by
  simp only [shp, List.all_cons, List.all_nil, hx, hy, Bool.and_true]
  rcases hk with rfl | rfl <;> rfl

/-- Meets are greatest lower bounds. -/
theorem meet_glb : ∀ (d : Nat) (a b : Ty), shp d a = true → shp d b = true → cons a b = true → shp d (meet a b) = true ∧ prec (meet a b) a = true ∧ prec (meet a b) b = true ∧ meet a b = meet b a ∧ (∀ c, shp d c = true → prec c a = true → prec c b = true → prec c (meet a b) = true)
  | 0, a, _, ha, _, _ => by simp [shp] at ha
  | d + 1, a, b, ha, hb, h => by
    rcases rel_cases ha hb with h1 | h1 | ⟨h1, h2, h3⟩ | ⟨h1, h2, hs⟩
    · rw [any_only9 ha h1, meet_any1]
      refine ⟨hb, prec_any rfl, prec_refl8 _ _ hb, (meet_unk b hb).symm, fun c _ _ h => h⟩
    · rw [any_only9 hb h1, meet_unk a ha]
      refine ⟨ha, prec_refl8 _ _ ha, prec_any rfl, (meet_any1 a).symm, fun c _ h _ => h⟩
    · rw [cons_diff h1 h2 h3] at h
      cases h
    · cases hs with
      | leaf k hk =>
        rw [meet_leaf (show k ≠ 1 by omega)]
        exact ⟨ha, prec_leaf, prec_leaf, rfl, fun c _ h _ => h⟩
      | two k x y x' y' hk hx hy hx' hy' =>
        rw [cons_two hk, Bool.and_eq_true] at h
        have hk1 : k ≠ 1 := by omega
        obtain ⟨a1, a2, a3, a5, a4⟩ := meet_glb d _ _ hx hx' h.1
        obtain ⟨b1, b2, b3, b5, b4⟩ := meet_glb d _ _ hy hy' h.2
        rw [meet_two hk1, meet_two hk1, prec_two hk, prec_two hk, a2, a3, b2, b3, ← a5, ← b5]
        refine ⟨shp_two8 hk a1 b1, rfl, rfl, rfl, fun c hc h1c h2c => ?_⟩
        obtain ⟨c1, c2, cs⟩ := prec_same hc ha h1 h1c
        cases cs with
        | two k' p q p' q' hk' hp hq hp' hq' =>
          rw [prec_two hk, Bool.and_eq_true] at h1c h2c ⊢
          exact ⟨a4 p hp h1c.1 h2c.1, b4 q hq h1c.2 h2c.2⟩

theorem prec_anti : ∀ (d : Nat) (a b : Ty), shp d a = true → shp d b = true → prec a b = true → prec b a = true → a = b
  | 0, a, _, ha, _, _, _ => by simp [shp] at ha
  | d + 1, a, b, ha, hb, h1, h2 => by
    by_cases hb1 : kindT b = 1
    · rcases prec_kind h2 with h | h
      · rw [any_only9 ha h, any_only9 hb hb1]
      · rw [any_only9 ha (by omega), any_only9 hb hb1]
    · obtain ⟨c1, c2, cs⟩ := prec_same ha hb hb1 h1
      cases cs with
      | leaf k hk => rfl
      | two k p q p' q' hk hp hq hp' hq' =>
        rw [prec_two hk, Bool.and_eq_true] at h1 h2
        rw [prec_anti d p p' hp hp' h1.1 h2.1, prec_anti d q q' hq hq' h1.2 h2.2]

theorem prec_meet (d : Nat) (a b : Ty) (ha : shp d a = true) (hb : shp d b = true) (h : cons a b = true) : prec a b = tyEq (meet a b) a := by
  obtain ⟨m1, m2, m3, m5, m4⟩ := meet_glb d a b ha hb h
  cases hp : prec a b with
  | true =>
    have h1 := m4 a ha (prec_refl8 d a ha) hp
    have := prec_anti d (meet a b) a m1 ha m2 h1
    rw [this, tyEq_refl]
  | false =>
    symm
    refine tyEq_ne fun e => ?_
    rw [e, hp] at m3
    cases m3

theorem meetOf_glb (a b : Ty) (h : consOf a b = true) : vld (meetOf a b) = true ∧ precOf (meetOf a b) a = true ∧ precOf (meetOf a b) b = true ∧ meetOf b a = meetOf a b ∧ consOf b a = true ∧ (∀ c, precOf c a = true → precOf c b = true → precOf c (meetOf a b) = true) ∧ precOf a b = tyEq (meetOf a b) a := by
  have hm : meetOf a b = meet a b := by unfold meetOf; rw [if_pos h]
  simp only [consOf, Bool.and_eq_true] at h
  obtain ⟨⟨ha, hb⟩, hc⟩ := h
  obtain ⟨m1, m2, m3, m5, m4⟩ := meet_glb 4 a b ha hb hc
  have hv : vld (meet a b) = true := m1
  have hcc : consOf b a = true := by simp only [consOf, ha, hb, Bool.true_and]; exact cons_comm8 4 a b ha hb hc
  rw [hm]
  refine ⟨hv, by simp only [precOf, hv, ha, m2]; rfl, by simp only [precOf, hv, hb, m3]; rfl, by unfold meetOf; rw [if_pos hcc, m5], hcc, fun c h1 h2 => ?_, ?_⟩
  · simp only [precOf, Bool.and_eq_true] at h1 h2 ⊢
    exact ⟨⟨h1.1.1, hv⟩, m4 c h1.1.1 h1.2 h2.2⟩
  · simp only [precOf, ha, hb, Bool.true_and]
    exact prec_meet 4 a b ha hb hc

end Go.Proofs.YtffmpjcjmffdeaaDoor

namespace Go.Proofs.YtffmpjcjmffdeaaDoor
open Go.RowKit

set_option maxHeartbeats 800000 in
theorem l1Meet_left (k : Int) (ts : List Ty) (k' : Int) (us : List Ty) (hk : k = 1) (v1 v2 : Value) (f1 f2 : List Nat) (w : World) (h1 : Ty.At w (.mk k ts) v1 f1) (h2 : Ty.At w (.mk k' us) v2 f2) (hn2 : (Ty.mk k' us).cnt ≤ 1048576) :
    Calls Tryd.prog 74 #[v1, v2] w (MadeT w (meet (.mk k ts) (.mk k' us))) := by
  obtain ⟨s, rfl, hs⟩ := Ty.at_mk.1 h1
  obtain ⟨a, cap, rfl⟩ := hs.shape
  obtain ⟨s', rfl, hs'⟩ := Ty.at_mk.1 h2
  obtain ⟨a', cap', rfl⟩ := hs'.shape
  generalize ts.length = m at *
  generalize us.length = m' at *
  have hB := ((((Below.refl w.heap.size w).alloc (Nat.le_refl _) (Obj.cells #[.int .i64 k, .slice a m cap] 32)).alloc (by simp) (Obj.cells #[.int .i64 k', .slice a' m' cap'] 32)).alloc (by simp; omega) (Obj.cells #[.int .i64 0, .slice none 0 0] 32))
  have HT := hid (show meet (.mk k ts) (.mk k' us) = (Ty.mk k' us) by simp [meet, hk])
  have HN := hid hn2
  clear hn2
  subst hk
  go_enter Tryd.func74, Tryd.ntmps74
  go_wp2_with fail
  refine (l1Copy_any (Ty.mk k' us) _ _ _ (h2.below hB) HN.out).mono ?_
  rintro e w1 ⟨v, f, rfl, hat, hf, hb⟩
  obtain ⟨kr, nr, ar, capr, rfl⟩ := hat.agg
  obtain ⟨x0, x1, x2, x3, r0, r1, rz⟩ := boxes3 hb
  have hM : w.heap.size + 1 + 1 < w1.heap.size := by have := hb.size; simp at this; omega
  have hbb := ((alloc3 hb).setCell (p := ⟨w.heap.size + 1 + 1, 0, none⟩) (by simp; omega) (.int .i64 kr)).setCell (p := ⟨w.heap.size + 1 + 1, 1, none⟩) (by simp; omega) (.slice ar nr capr)
  have hkr := keepR (R := w.heap.size + 1 + 1) (x := .int .i64 kr) (y := .slice ar nr capr) hat hf (by simp)
  go_wp2_with fail
  exact bodyPost_ret (v := .agg #[.int .i64 kr, .slice ar nr capr]) (by simp [results, Tryd.results74, go_sem, r0, r1]) rfl ⟨_, f, rfl, by rw [HT.out]; exact hkr.1, hkr.2.mono (by simp; omega), hbb⟩

set_option maxHeartbeats 800000 in
theorem l1Meet_right (k : Int) (ts : List Ty) (k' : Int) (us : List Ty) (hk : k ≠ 1) (hk' : k' = 1) (v1 v2 : Value) (f1 f2 : List Nat) (w : World) (h1 : Ty.At w (.mk k ts) v1 f1) (h2 : Ty.At w (.mk k' us) v2 f2) (hn1 : (Ty.mk k ts).cnt ≤ 1048576) :
    Calls Tryd.prog 74 #[v1, v2] w (MadeT w (meet (.mk k ts) (.mk k' us))) := by
  obtain ⟨s, rfl, hs⟩ := Ty.at_mk.1 h1
  obtain ⟨a, cap, rfl⟩ := hs.shape
  obtain ⟨s', rfl, hs'⟩ := Ty.at_mk.1 h2
  obtain ⟨a', cap', rfl⟩ := hs'.shape
  generalize ts.length = m at *
  generalize us.length = m' at *
  have hB := ((((Below.refl w.heap.size w).alloc (Nat.le_refl _) (Obj.cells #[.int .i64 k, .slice a m cap] 32)).alloc (by simp) (Obj.cells #[.int .i64 k', .slice a' m' cap'] 32)).alloc (by simp; omega) (Obj.cells #[.int .i64 0, .slice none 0 0] 32))
  have HT := hid (show meet (.mk k ts) (.mk k' us) = (Ty.mk k ts) by simp [meet, hk, hk'])
  have HN := hid hn1
  clear hn1
  have hk1 : (k == 1) = false := by simpa using hk
  subst hk'
  clear hk
  go_enter Tryd.func74, Tryd.ntmps74
  go_wp2_with fail
  refine (l1Copy_any (Ty.mk k ts) _ _ _ (h1.below hB) HN.out).mono ?_
  rintro e w1 ⟨v, f, rfl, hat, hf, hb⟩
  obtain ⟨kr, nr, ar, capr, rfl⟩ := hat.agg
  obtain ⟨x0, x1, x2, x3, r0, r1, rz⟩ := boxes3 hb
  have hM : w.heap.size + 1 + 1 < w1.heap.size := by have := hb.size; simp at this; omega
  have hbb := ((alloc3 hb).setCell (p := ⟨w.heap.size + 1 + 1, 0, none⟩) (by simp; omega) (.int .i64 kr)).setCell (p := ⟨w.heap.size + 1 + 1, 1, none⟩) (by simp; omega) (.slice ar nr capr)
  have hkr := keepR (R := w.heap.size + 1 + 1) (x := .int .i64 kr) (y := .slice ar nr capr) hat hf (by simp)
  go_wp2_with fail
  exact bodyPost_ret (v := .agg #[.int .i64 kr, .slice ar nr capr]) (by simp [results, Tryd.results74, go_sem, r0, r1]) rfl ⟨_, f, rfl, by rw [HT.out]; exact hkr.1, hkr.2.mono (by simp; omega), hbb⟩

theorem l1Meet_any : ∀ t : Ty, MtC t := Ty.ind fun k ts ih => by
  intro u v1 v2 f1 f2 w h1 h2 hw1 hw2 hc hn1 hn2
  obtain ⟨k', us, rfl⟩ := u.shape
  by_cases hk : k = 1
  · exact l1Meet_left k ts k' us hk v1 v2 f1 f2 w h1 h2 hn2
  · by_cases hk' : k' = 1
    · exact l1Meet_right k ts k' us hk hk' v1 v2 f1 f2 w h1 h2 hn1
    · simp only [cons] at hc
      rw [if_neg (by simp [hk, hk'])] at hc
      by_cases hkk : k = k'
      · subst hkk
        rw [if_pos rfl] at hc
        exact l1Meet_build k ts us ih hk (wf_len hw1 hw2) (wf_mk hw1).2 (wf_mk hw2).2 hc hn1 hn2 (by simp [meet, hk]) v1 v2 f1 f2 w h1 h2
      · rw [if_neg hkk] at hc
        cases hc

end Go.Proofs.YtffmpjcjmffdeaaDoor

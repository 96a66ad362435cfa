/- The program's copyType, at valid types and at the zero type. MatchFun and MatchPair, of the specification and of the program. The ground type of a kind: the program's groundOfKind. The program's copies, meets and joins. Well-formed types of at most a depth, beside chapter 6. The relations of chapter 8 as plain functions: what a cast between two types cannot blame (p = 1: its own label; -1: the negation of it; 0: neither). Precision, consistency and the relations of chapter 8: the laws of order, plainly. The program's MeetTypes and JoinTypes. A type of two parts, which share the memory of the types given; scopes as linked lists of bindings. The innermost binding of a name in a scope. The specification's l3Look: the type of the last binding of a name, copied. The specification's l3Two. -/
import Derived.Test.YtffmpjcjmffdeaaDoorRWalkT
import Derived.Deep.RegionHeld3
import Derived.Test.YtffmpjcjmffdeaaDoorRPkA
import Derived.Test.YtffmpjcjmffdeaaDoorRG1
import Derived.Test.YtffmpjcjmffdeaaDoorRG6
import Derived.Lib.Strings
import Derived.Test.YtffmpjcjmffdeaaDoorRPkB
namespace Go.Proofs.YtffmpjcjmffdeaaDoor
open Go.RowKit

def unkT : Ty → Ty → Ty := fun _ _ => .mk 1 []

theorem wf_any {ts : List Ty} (h : wf (.mk 1 ts)) : ts = [] := by
  have := (wf_mk h).1
  have : ts.length = 0 := by
    have e : kidsOf 1 = 0 := rfl
    omega
  exact List.length_eq_zero_iff.1 this

mutual
theorem wkT_copy : ∀ t : Ty, wf t → wkT unkT t t = t
  | .mk k ts, h => by
    simp only [wkT]
    by_cases hk : k = 1
    · subst hk
      obtain rfl := wf_any h
      simp [unkT]
    · rw [if_neg (by simp [hk]), wkTL_copy ts (wf_mk h).2]
theorem wkTL_copy : ∀ ts : List Ty, (∀ t ∈ ts, wf t) → wkTL unkT ts ts = ts
  | [], _ => by simp only [wkTL]
  | t :: ts, h => by simp only [wkTL]; rw [wkT_copy t (h t (by simp)), wkTL_copy ts (fun u hu => h u (by simp [hu]))]
end

set_option maxRecDepth 100000 in
theorem callOk_unknown : CallOkT 119 := fun _ _ => by kernel_rfl

set_option maxHeartbeats 400000 in
theorem unknown_any : ApT 119 unkT := by
  intro t u v1 v2 f1 f2 w h1 h2 _ _
  obtain ⟨k, m, a, cap, rfl⟩ := h1.agg
  obtain ⟨k', m', a', cap', rfl⟩ := h2.agg
  have hM : w.heap.size + 1 + 1 < (((w.alloc (Obj.cells #[.int .i64 k, .slice a m cap] 32)).alloc (Obj.cells #[.int .i64 k', .slice a' m' cap'] 32)).alloc (Obj.cells #[.int .i64 0, .slice none 0 0] 32)).heap.size := by simp
  have hbb := (((((Below.refl w.heap.size w).alloc (Nat.le_refl _) (Obj.cells #[.int .i64 k, .slice a m cap] 32)).alloc (by simp) (Obj.cells #[.int .i64 k', .slice a' m' cap'] 32)).alloc (by simp; omega) (Obj.cells #[.int .i64 0, .slice none 0 0] 32)).setCell (p := ⟨w.heap.size + 1 + 1, 0, none⟩) (by simp; omega) (.int .i64 1)).setCell (p := ⟨w.heap.size + 1 + 1, 1, none⟩) (by simp; omega) (.slice none 0 0)
  go_enter Tryd.func119, Tryd.ntmps119
  go_wp2_with fail
  exact bodyPost_ret (v := .agg #[.int .i64 1, .slice none 0 0]) (by simp [results, Tryd.results119, go_sem]) rfl ⟨_, [], rfl, Ty.at_mk.2 ⟨_, rfl, .inl ⟨rfl, rfl, none, 0, rfl⟩⟩, Fresh.nil _ _, by first | exact hbb | exact (((Below.refl _ _).alloc (Nat.le_refl _) _).alloc (by simp) _).alloc (by simp; omega) _⟩

theorem boxes2 {w wr : World} {x y x2 y2 : Value} {T T2 : TypeId} (h : Below ((w.alloc (Obj.cells #[x, y] T)).alloc (Obj.cells #[x2, y2] T2)).heap.size ((w.alloc (Obj.cells #[x, y] T)).alloc (Obj.cells #[x2, y2] T2)) wr) :
    wr.cell? ⟨w.heap.size, 0, none⟩ = some x ∧ wr.cell? ⟨w.heap.size, 1, none⟩ = some y ∧ wr.cell? ⟨w.heap.size + 1, 0, none⟩ = some x2 ∧ wr.cell? ⟨w.heap.size + 1, 1, none⟩ = some y2 ∧ ∀ o, wr.frozen? ⟨w.heap.size + 1, o, none⟩ = false := by
  obtain ⟨a, b, c, d⟩ := box_cells2 h
  have hs : (w.alloc (Obj.cells #[x, y] T)).heap.size = w.heap.size + 1 := by simp
  have h1 : wr.heap[w.heap.size + 1]? = some (Obj.cells #[x2, y2] T2) := by
    rw [h.block (w.heap.size + 1) (by simp), ← hs]
    exact alloc_new _ _
  exact ⟨a, b, c, d, fun o => frozen_of_block h1⟩

set_option maxRecDepth 100000 in
set_option maxHeartbeats 800000 in
theorem copyType_any (t : Ty) (v : Value) (fp : List Nat) (w : World) (h : t.At w v fp) (hw : wf t) : Calls Tryd.prog 63 #[v] w (MadeT w t) := by
  obtain ⟨k, m, a, cap, rfl⟩ := h.agg
  have hB := (((Below.refl w.heap.size w).alloc (Nat.le_refl _) (Obj.cells #[.int .i64 k, .slice a m cap] 32)).alloc (by simp) (Obj.cells #[.int .i64 0, .slice none 0 0] 32))
  have HT := hid (wkT_copy t hw)
  go_enter Tryd.func63, Tryd.ntmps63
  go_wp2_with fail
  refine (walkT_any _ _ unknown_any callOk_unknown t t _ _ _ _ _ (h.below hB) (h.below hB) hw hw).mono ?_
  rw [HT.out]
  rintro e w1 ⟨v, f, rfl, hat, hf, hb⟩
  obtain ⟨kr, nr, ar, capr, rfl⟩ := hat.agg
  obtain ⟨x0, x1, r0, r1, rz⟩ := boxes2 hb
  have hM : w.heap.size + 1 < w1.heap.size := by have := hb.size; simp at this; omega
  have hbb := ((alloc2 hb).setCell (p := ⟨w.heap.size + 1, 0, none⟩) (by simp) (.int .i64 kr)).setCell (p := ⟨w.heap.size + 1, 1, none⟩) (by simp) (.slice ar nr capr)
  have hkr := keepR (R := w.heap.size + 1) (x := .int .i64 kr) (y := .slice ar nr capr) hat hf (by simp)
  go_wp2_with fail
  exact bodyPost_ret (v := .agg #[.int .i64 kr, .slice ar nr capr]) (by simp [results, Tryd.results63, go_sem, r0, r1]) rfl ⟨_, f, rfl, hkr.1, hkr.2.mono (by simp; omega), hbb⟩

end Go.Proofs.YtffmpjcjmffdeaaDoor

namespace Go.Proofs.YtffmpjcjmffdeaaDoor
open Go.RowKit

def knd : Ty → Int
  | .mk k _ => k
def kids2 : Ty → List Ty
  | .mk _ ts => ts
def mtOk (q : Int) (t : Ty) : Bool := vld t && (knd t == 1 || knd t == q)
/-- The operand i of a type as one of the kind q. -/
def mtOf (q : Int) (i : Nat) (t : Ty) : Ty := if mtOk q t then (if knd t == 1 then .mk 1 [] else ((kids2 t)[i]?).getD (.mk 0 [])) else .mk 0 []

theorem two_of {q : Int} {ts : List Ty} (hq : q = 4 ∨ q = 5) (hv : vld (.mk q ts) = true) : ∃ a b, ts = [a, b] := by
  have h := (wf_mk (wf_of_vld hv)).1
  have h2 : ts.length = 2 := by
    have : kidsOf q = 2 := by rcases hq with rfl | rfl <;> rfl
    omega
  match ts, h2 with
  | [a, b], _ => exact ⟨a, b, rfl⟩

theorem mt_bad {q : Int} {t : Ty} (h : mtOk q t = false) (i : Nat) : mtOf q i t = .mk 0 [] := by unfold mtOf; rw [h]; rfl
theorem mt_any {q : Int} {ts : List Ty} (h : vld (.mk 1 ts) = true) : mtOk q (.mk 1 ts) = true ∧ ∀ i, mtOf q i (.mk 1 ts) = .mk 1 [] := by
  have e : mtOk q (.mk 1 ts) = true := by simp [mtOk, h, knd]
  refine ⟨e, fun i => ?_⟩
  unfold mtOf
  rw [e]
  rfl
theorem mt_two {q : Int} {a b : Ty} (hq : q = 4 ∨ q = 5) (h : vld (.mk q [a, b]) = true) : mtOk q (.mk q [a, b]) = true ∧ mtOf q 0 (.mk q [a, b]) = a ∧ mtOf q 1 (.mk q [a, b]) = b := by
  have e : mtOk q (.mk q [a, b]) = true := by simp [mtOk, h, knd]
  have hk : (q == 1) = false := by rcases hq with rfl | rfl <;> rfl
  refine ⟨e, ?_, ?_⟩ <;> simp [mtOf, e, knd, hk, kids2]
theorem mt_no {q k : Int} {ts : List Ty} (h1 : k ≠ 1) (h2 : k ≠ q) : mtOk q (.mk k ts) = false := by simp [mtOk, knd, h1, h2]

def MadeTT (w : World) (t u : Ty) (ok : Bool) (e : Ending) (w' : World) : Prop := ∃ v1 v2 f1 f2 M, e = .returned (.tuple #[v1, v2, .bool ok]) ∧ t.At w' v1 f1 ∧ u.At w' v2 f2 ∧ Fresh w.heap.size w' f1 ∧ Fresh w.heap.size w' f2 ∧
  Within w.heap.size M f1 ∧ Within M w'.heap.size f2 ∧ w.heap.size ≤ M ∧ M ≤ w'.heap.size ∧ Below w.heap.size w w'

theorem within_nil (a b : Nat) : Within a b [] := fun b hb => by cases hb

theorem MadeTT.leaf {w w' : World} {k l : Int} {ok : Bool} (hb : Below w.heap.size w w') : MadeTT w (.mk k []) (.mk l []) ok (.returned (.tuple #[.agg #[.int .i64 k, .slice none 0 0], .agg #[.int .i64 l, .slice none 0 0], .bool ok])) w' :=
  ⟨_, _, [], [], w.heap.size, rfl, Ty.at_mk.2 ⟨_, rfl, .inl ⟨rfl, rfl, none, 0, rfl⟩⟩, Ty.at_mk.2 ⟨_, rfl, .inl ⟨rfl, rfl, none, 0, rfl⟩⟩, Fresh.nil _ _, Fresh.nil _ _, within_nil _ _, within_nil _ _, Nat.le_refl _, hb.size, hb⟩

/-- Four stores into two blocks of results: what was made stays, what lay there stays. -/
theorem MadeTT.stored {w w1 : World} {t u : Ty} {ok : Bool} {v1 v2 x y x' y' : Value} {f1 f2 : List Nat} {R M A B : Nat} (h1 : t.At w1 v1 f1) (h2 : u.At w1 v2 f2) (hf1 : Fresh R w1 f1) (hf2 : Fresh R w1 f2) (hi1 : Within R M f1) (hi2 : Within M w1.heap.size f2) (hM : R ≤ M) (hM2 : M ≤ w1.heap.size) (hS : w.heap.size ≤ R)
    (hA : A < R) (hB : B < R) (hA' : w.heap.size ≤ A) (hB' : w.heap.size ≤ B) (hb : Below w.heap.size w w1) :
    MadeTT w t u ok (.returned (.tuple #[v1, v2, .bool ok])) ((((w1.setCell ⟨A, 0, none⟩ x).setCell ⟨A, 1, none⟩ y).setCell ⟨B, 0, none⟩ x').setCell ⟨B, 1, none⟩ y') := by
  have hab := ((((Above.refl R w1).setCell (p := ⟨A, 0, none⟩) hA x).setCell (p := ⟨A, 1, none⟩) hA y).setCell (p := ⟨B, 0, none⟩) hB x').setCell (p := ⟨B, 1, none⟩) hB y'
  have hbb := (((hb.setCell (p := ⟨A, 0, none⟩) hA' x).setCell (p := ⟨A, 1, none⟩) hA' y).setCell (p := ⟨B, 0, none⟩) hB' x').setCell (p := ⟨B, 1, none⟩) hB' y'
  exact ⟨v1, v2, f1, f2, M, rfl, h1.above hab hf1.ge, h2.above hab hf2.ge, (hf1.above hab (Nat.le_refl _)).mono hS, (hf2.above hab (Nat.le_refl _)).mono hS, fun b hb => ⟨Nat.le_trans hS (hi1 b hb).1, (hi1 b hb).2⟩, by simpa using hi2, Nat.le_trans hS hM, by simpa using hM2, hbb⟩

theorem three_boxes {w wr : World} {x y x' y' x2 y2 : Value} {T T' T2 : TypeId} (h : Below (((w.alloc (Obj.cells #[x, y] T)).alloc (Obj.cells #[x', y'] T')).alloc (Obj.cells #[x2, y2] T2)).heap.size (((w.alloc (Obj.cells #[x, y] T)).alloc (Obj.cells #[x', y'] T')).alloc (Obj.cells #[x2, y2] T2)) wr) :
    wr.heap[w.heap.size]? = some (Obj.cells #[x, y] T) ∧ wr.heap[w.heap.size + 1]? = some (Obj.cells #[x', y'] T') ∧ wr.heap[w.heap.size + 1 + 1]? = some (Obj.cells #[x2, y2] T2) := by
  have hs : (w.alloc (Obj.cells #[x, y] T)).heap.size = w.heap.size + 1 := by simp
  have hs2 : ((w.alloc (Obj.cells #[x, y] T)).alloc (Obj.cells #[x', y'] T')).heap.size = w.heap.size + 1 + 1 := by simp
  refine ⟨?_, ?_, ?_⟩
  · rw [h.block w.heap.size (by simp; omega)]
    exact (Below.heap_alloc _ _ _ (by simp; omega)).trans ((Below.heap_alloc _ _ _ (by simp)).trans (alloc_new w _))
  · rw [h.block (w.heap.size + 1) (by simp)]
    exact (Below.heap_alloc _ _ _ (by simp)).trans (by rw [← hs]; exact alloc_new _ _)
  · rw [h.block (w.heap.size + 1 + 1) (by simp), ← hs2]
    exact alloc_new _ _

theorem three_cells {w wr : World} {x y x' y' x2 y2 : Value} {T T' T2 : TypeId} (h : Below (((w.alloc (Obj.cells #[x, y] T)).alloc (Obj.cells #[x', y'] T')).alloc (Obj.cells #[x2, y2] T2)).heap.size (((w.alloc (Obj.cells #[x, y] T)).alloc (Obj.cells #[x', y'] T')).alloc (Obj.cells #[x2, y2] T2)) wr) :
    wr.cell? ⟨w.heap.size, 0, none⟩ = some x ∧ wr.cell? ⟨w.heap.size, 1, none⟩ = some y ∧ wr.cell? ⟨w.heap.size + 1, 0, none⟩ = some x' ∧ wr.cell? ⟨w.heap.size + 1, 1, none⟩ = some y' ∧ wr.cell? ⟨w.heap.size + 1 + 1, 0, none⟩ = some x2 ∧ wr.cell? ⟨w.heap.size + 1 + 1, 1, none⟩ = some y2 ∧
      (∀ o, wr.frozen? ⟨w.heap.size + 1, o, none⟩ = false) ∧ ∀ o, wr.frozen? ⟨w.heap.size + 1 + 1, o, none⟩ = false := by
  obtain ⟨K0, K1, K2⟩ := three_boxes h
  exact ⟨cell_of_block K0, cell_of_block K0, cell_of_block K1, cell_of_block K1, cell_of_block K2, cell_of_block K2, fun o => frozen_of_block K1, fun o => frozen_of_block K2⟩

theorem two_set_keep {y : World} {R b o : Nat} {v : Value} (h : y.cell? ⟨b, o, none⟩ = some v) (hb : b ≠ R) (x z : Value) : ((y.setCell ⟨R, 0, none⟩ x).setCell ⟨R, 1, none⟩ z).cell? ⟨b, o, none⟩ = some v :=
  (cell_setCell_ne _ ⟨R, 1, none⟩ _ _ _ hb).trans ((cell_setCell_ne _ ⟨R, 0, none⟩ _ _ _ hb).trans h)

end Go.Proofs.YtffmpjcjmffdeaaDoor

namespace Go.Proofs.YtffmpjcjmffdeaaDoor
open Go.RowKit

/-- The ground type of a kind. -/
def gk (k : Int) : Ty := .mk k (if k = 4 ∨ k = 5 then [.mk 1 [], .mk 1 []] else [])

/-- A new block of zero types of which the first j kinds have been set. -/
def Kinds (M n j : Nat) (wr : World) : Prop :=
  ∃ C : Array Value, wr.heap[M]? = some (.cells C 32 (0, 0)) ∧ C.size = n * 2 ∧ ∀ i, i < n → C[i * 2]? = some (.int .i64 (if i < j then 1 else 0)) ∧ C[i * 2 + 1]? = some (.slice none 0 0)

theorem Kinds.set {M n j : Nat} {w : World} (h : Kinds M n j w) (hj : j < n) : Kinds M n (j + 1) (w.setCell ⟨M, j * 2, none⟩ (.int .i64 1)) := by
  obtain ⟨C, hB, hC, hc⟩ := h
  refine ⟨_, heap_setCell_at hB _, by simp [hC], fun i hi => ⟨?_, ?_⟩⟩
  · by_cases hij : i = j
    · subst hij
      rw [if_pos (by omega)]
      simp [Array.getElem?_setIfInBounds, hC]
      omega
    · rw [Array.getElem?_setIfInBounds_ne (by omega), (hc i hi).1]
      by_cases h : i < j
      · rw [if_pos h, if_pos (by omega)]
      · rw [if_neg h, if_neg (by omega)]
  · rw [Array.getElem?_setIfInBounds_ne (by omega)]
    exact (hc i hi).2

end Go.Proofs.YtffmpjcjmffdeaaDoor

namespace Go.Proofs.YtffmpjcjmffdeaaDoor
open Go.RowKit

def knownT : Ty → Ty → Ty
  | .mk k ts, u => if k = 1 then u else .mk k ts



mutual
theorem wkT_meet : ∀ t u : Ty, cons t u = true → wkT knownT t u = meet t u
  | .mk k ts, .mk k' us, hc => by
    simp only [wkT, meet, cons] at *
    by_cases hk : k = 1
    · subst hk
      simp [knownT]
    · by_cases hk' : k' = 1
      · subst hk'
        simp [knownT, hk]
      · rw [if_neg (by simp [hk, hk'])] at hc
        by_cases hkk : k = k'
        · subst hkk
          rw [if_pos rfl] at hc
          rw [if_neg (by simp [hk]), if_neg hk, if_neg hk, wkTL_meet ts us hc]
        · rw [if_neg hkk] at hc
          cases hc
theorem wkTL_meet : ∀ ts us : List Ty, consL ts us = true → wkTL knownT ts us = meetL ts us
  | [], _, _ => by simp only [wkTL, meetL]
  | _ :: _, [], _ => by simp only [wkTL, meetL]
  | t :: ts, u :: us, h => by
    simp only [consL, Bool.and_eq_true] at h
    simp only [wkTL, meetL]
    rw [wkT_meet t u h.1, wkTL_meet ts us h.2]
end

theorem callOk_known : CallOkT 127 := fun _ _ => by kernel_rfl

set_option maxHeartbeats 800000 in
theorem known_any : ApT 127 knownT := by
  intro t u v1 v2 f1 f2 w h1 h2 hw1 hw2
  obtain ⟨k, ts, rfl⟩ := t.shape
  obtain ⟨s, rfl, hs⟩ := Ty.at_mk.1 h1
  obtain ⟨a, cap, rfl⟩ := hs.shape
  obtain ⟨k', m', a', cap', rfl⟩ := h2.agg
  generalize ts.length = m at *
  have hB := ((((Below.refl w.heap.size w).alloc (Nat.le_refl _) (Obj.cells #[.int .i64 k, .slice a m cap] 32)).alloc (by simp) (Obj.cells #[.int .i64 k', .slice a' m' cap'] 32)).alloc (by simp; omega) (Obj.cells #[.int .i64 0, .slice none 0 0] 32))
  by_cases hk : k = 1
  · have HT := hid (show knownT (.mk k ts) u = u by simp [knownT, hk])
    subst hk
    go_enter Tryd.func127, Tryd.ntmps127
    go_wp2_with fail
    refine (copyType_any u _ _ _ (h2.below hB) hw2).mono ?_
    rintro e w1 ⟨v, f, rfl, hat, hf, hb⟩
    obtain ⟨kr, nr, ar, capr, rfl⟩ := hat.agg
    obtain ⟨x0, x1, x2, x3, r0, r1, rz⟩ := boxes3 hb
    have hM : w.heap.size + 1 + 1 < w1.heap.size := by have := hb.size; simp at this; omega
    have hbb := ((alloc3 hb).setCell (p := ⟨w.heap.size + 1 + 1, 0, none⟩) (by simp; omega) (.int .i64 kr)).setCell (p := ⟨w.heap.size + 1 + 1, 1, none⟩) (by simp; omega) (.slice ar nr capr)
    have hkr := keepR (R := w.heap.size + 1 + 1) (x := .int .i64 kr) (y := .slice ar nr capr) hat hf (by simp)
    go_wp2_with fail
    exact bodyPost_ret (v := .agg #[.int .i64 kr, .slice ar nr capr]) (by simp [results, Tryd.results127, go_sem, r0, r1]) rfl ⟨_, f, rfl, by rw [HT.out]; exact hkr.1, hkr.2.mono (by simp; omega), hbb⟩
  · have HT := hid (show knownT (.mk k ts) u = .mk k ts by simp [knownT, hk])
    have hk1 : (k == 1) = false := by simpa using hk
    clear hk
    go_enter Tryd.func127, Tryd.ntmps127
    go_wp2_with fail
    refine (copyType_any (.mk k ts) _ _ _ (h1.below hB) hw1).mono ?_
    rintro e w1 ⟨v, f, rfl, hat, hf, hb⟩
    obtain ⟨kr, nr, ar, capr, rfl⟩ := hat.agg
    obtain ⟨x0, x1, x2, x3, r0, r1, rz⟩ := boxes3 hb
    have hM : w.heap.size + 1 + 1 < w1.heap.size := by have := hb.size; simp at this; omega
    have hbb := ((alloc3 hb).setCell (p := ⟨w.heap.size + 1 + 1, 0, none⟩) (by simp; omega) (.int .i64 kr)).setCell (p := ⟨w.heap.size + 1 + 1, 1, none⟩) (by simp; omega) (.slice ar nr capr)
    have hkr := keepR (R := w.heap.size + 1 + 1) (x := .int .i64 kr) (y := .slice ar nr capr) hat hf (by simp)
    go_wp2_with fail
    exact bodyPost_ret (v := .agg #[.int .i64 kr, .slice ar nr capr]) (by simp [results, Tryd.results127, go_sem, r0, r1]) rfl ⟨_, f, rfl, by rw [HT.out]; exact hkr.1, hkr.2.mono (by simp; omega), hbb⟩

/-- What a call says that hands back a tree and whether there is one. -/
def MadeTB (w : World) (t : Ty) (ok : Bool) (e : Ending) (w' : World) : Prop := ∃ v fp, e = .returned (.tuple #[v, .bool ok]) ∧ t.At w' v fp ∧ Fresh w.heap.size w' fp ∧ Below w.heap.size w w'

def meetOf (t u : Ty) : Ty := if consOf t u then meet t u else .mk 0 []
end Go.Proofs.YtffmpjcjmffdeaaDoor

namespace Go.Proofs.YtffmpjcjmffdeaaDoor
open Go.RowKit

def kidsT8 : Ty → List Ty
  | .mk _ ts => ts

theorem shp_small8 : ∀ {d : Nat} {t : Ty}, shp d t = true → t.cnt + 2 ≤ 2 ^ (d + 1)
  | 0, _, h => by simp [shp] at h
  | d + 1, .mk k ts, h => by
    have hp : 0 < 2 ^ d := Nat.pow_pos (by omega)
    rcases shp_cases h with ⟨rfl, _⟩ | ⟨a, b, rfl, _, ha, hb⟩
    · simp only [Ty.cnt, cntL, List.length_nil, Nat.pow_succ]
      omega
    · have h1 := shp_small8 ha
      have h2 := shp_small8 hb
      simp only [Ty.cnt, cntL, List.length_cons, List.length_nil, Nat.pow_succ] at *
      omega

theorem shp_cnt8 {d : Nat} {t : Ty} (h : shp d t = true) (hd : d ≤ 4) : t.cnt ≤ 1048576 := by
  have h1 := shp_small8 h
  have h2 : 2 ^ (d + 1) ≤ 2 ^ 5 := Nat.pow_le_pow_right (by omega) (by omega)
  omega

end Go.Proofs.YtffmpjcjmffdeaaDoor

namespace Go.Proofs.YtffmpjcjmffdeaaDoor
open Go.RowKit

/-- The operands of two types of the same kind. -/
def subS (f : Int → Ty → Ty → Bool) (p k : Int) : List Ty → List Ty → Bool
  | [x, y], [x', y'] => if k = 4 then f (-p) x' x && f p y y' else f p x x' && f p y y'
  | _, _ => true

/-- The relation, for types of at most a depth. -/
def sub : Nat → Int → Ty → Ty → Bool
  | 0, _, _, _ => true
  | d + 1, p, a, b =>
    if kindT a = 1 then (kindT b == 1) || (p == -1)
    else if kindT b = 1 then (p == 1) || subS (sub d) p (kindT a) (kidsT8 a) (kidsT8 (gk (kindT a)))
    else if kindT a = kindT b then subS (sub d) p (kindT a) (kidsT8 a) (kidsT8 b)
    else false

/-- Two types of one kind, none of them unknown: leaves, or two operands each. -/
inductive SameK (d : Nat) : Ty → Ty → Prop
  | leaf (k : Int) (h : k = 2 ∨ k = 3) : SameK d (.mk k []) (.mk k [])
  | two (k : Int) (x y x' y' : Ty) (h : k = 4 ∨ k = 5) (hx : shp d x = true) (hy : shp d y = true) (hx' : shp d x' = true) (hy' : shp d y' = true) : SameK d (.mk k [x, y]) (.mk k [x', y'])

theorem sameK_of {d : Nat} {a b : Ty} (ha : shp (d + 1) a = true) (hb : shp (d + 1) b = true) (h1 : kindT a ≠ 1) (h : kindT a = kindT b) : SameK d a b := by
  obtain ⟨k, ts, rfl⟩ := a.shape
  obtain ⟨k', us, rfl⟩ := b.shape
  obtain rfl : k = k' := h
  have h1' : k ≠ 1 := h1
  rcases shp_cases ha with ⟨rfl, hk⟩ | ⟨x, y, rfl, hk, hx, hy⟩
  · rcases shp_cases hb with ⟨rfl, _⟩ | ⟨x', y', rfl, hk', _⟩
    · exact .leaf k (by omega)
    · omega
  · rcases shp_cases hb with ⟨rfl, hk'⟩ | ⟨x', y', rfl, _, hx', hy'⟩
    · omega
    · exact .two k x y x' y' hk hx hy hx' hy'

end Go.Proofs.YtffmpjcjmffdeaaDoor

namespace Go.Proofs.YtffmpjcjmffdeaaDoor
open Go.RowKit

/-- The ways in which two well-formed types can stand to each other. -/
theorem rel_cases {d : Nat} {a b : Ty} (ha : shp (d + 1) a = true) (hb : shp (d + 1) b = true) : kindT a = 1 ∨ kindT b = 1 ∨ (kindT a ≠ 1 ∧ kindT b ≠ 1 ∧ kindT a ≠ kindT b) ∨ (kindT a ≠ 1 ∧ kindT b ≠ 1 ∧ SameK d a b) := by
  by_cases h1 : kindT a = 1
  · exact .inl h1
  by_cases h2 : kindT b = 1
  · exact .inr (.inl h2)
  by_cases h3 : kindT a = kindT b
  · exact .inr (.inr (.inr ⟨h1, h2, sameK_of ha hb h1 h3⟩))
  · exact .inr (.inr (.inl ⟨h1, h2, h3⟩))

theorem prec_any {a b : Ty} (h : kindT b = 1) : prec a b = true := by
  obtain ⟨k, ts, rfl⟩ := a.shape
  obtain ⟨k', us, rfl⟩ := b.shape
  simp [prec, show k' = 1 from h]
theorem prec_diff {a b : Ty} (h : kindT b ≠ 1) (he : kindT a ≠ kindT b) : prec a b = false := by
  obtain ⟨k, ts, rfl⟩ := a.shape
  obtain ⟨k', us, rfl⟩ := b.shape
  have h1 : ¬ k' = 1 := h
  have h2 : ¬ k = k' := he
  simp [prec, h1, h2]
theorem prec_two {k : Int} {x y x' y' : Ty} (hk : k = 4 ∨ k = 5) : prec (.mk k [x, y]) (.mk k [x', y']) = (prec x x' && prec y y') := by
  have : ¬ k = 1 := by omega
  simp [prec, precL, this]
theorem prec_leaf {k : Int} : prec (.mk k []) (.mk k []) = true := by
  by_cases h : k = 1 <;> simp [prec, precL, h]
theorem cons_any {a b : Ty} (h : kindT a = 1 ∨ kindT b = 1) : cons a b = true := by
  obtain ⟨k, ts, rfl⟩ := a.shape
  obtain ⟨k', us, rfl⟩ := b.shape
  have : k = 1 ∨ k' = 1 := h
  simp [cons, this]
theorem cons_diff {a b : Ty} (h1 : kindT a ≠ 1) (h2 : kindT b ≠ 1) (he : kindT a ≠ kindT b) : cons a b = false := by
  obtain ⟨k, ts, rfl⟩ := a.shape
  obtain ⟨k', us, rfl⟩ := b.shape
  have g1 : ¬ k = 1 := h1
  have g2 : ¬ k' = 1 := h2
  have g3 : ¬ k = k' := he
  simp [cons, g1, g2, g3]
theorem cons_two {k : Int} {x y x' y' : Ty} (hk : k = 4 ∨ k = 5) : cons (.mk k [x, y]) (.mk k [x', y']) = (cons x x' && cons y y') := by
  have : ¬ k = 1 := by omega
  simp [cons, consL, this]
theorem cons_leaf {k : Int} : cons (.mk k []) (.mk k []) = true := by
  by_cases h : k = 1 <;> simp [cons, consL, h]

/-- What is more precise has the same kind, or the other one is unknown. -/
theorem prec_kind {a b : Ty} (h : prec a b = true) : kindT b = 1 ∨ kindT a = kindT b := by
  by_cases h1 : kindT b = 1
  · exact .inl h1
  by_cases h2 : kindT a = kindT b
  · exact .inr h2
  · rw [prec_diff h1 h2] at h; cases h

/-- Consistency does not look at the order. -/
theorem cons_comm8 : ∀ (d : Nat) (a b : Ty), shp d a = true → shp d b = true → cons a b = true → cons b a = true
  | 0, a, _, ha, _, _ => by simp [shp] at ha
  | d + 1, a, b, ha, hb, h => by
    rcases rel_cases ha hb with h1 | h1 | ⟨h1, h2, h3⟩ | ⟨h1, h2, hs⟩
    · exact cons_any (.inr h1)
    · exact cons_any (.inl h1)
    · rw [cons_diff h1 h2 h3] at h; cases h
    · cases hs with
      | leaf k hk => exact cons_leaf
      | two k x y x' y' hk hx hy hx' hy' =>
        rw [cons_two hk, Bool.and_eq_true] at h ⊢
        exact ⟨cons_comm8 d _ _ hx hx' h.1, cons_comm8 d _ _ hy hy' h.2⟩

theorem prec_cons : ∀ (d : Nat) (a b : Ty), shp d a = true → shp d b = true → prec a b = true → cons a b = true
  | 0, a, _, ha, _, _ => by simp [shp] at ha
  | d + 1, a, b, ha, hb, h => by
    rcases rel_cases ha hb with h1 | h1 | ⟨h1, h2, h3⟩ | ⟨h1, h2, hs⟩
    · exact cons_any (.inl h1)
    · exact cons_any (.inr h1)
    · rw [prec_diff h2 h3] at h; cases h
    · cases hs with
      | leaf k hk => exact cons_leaf
      | two k x y x' y' hk hx hy hx' hy' =>
        rw [prec_two hk, Bool.and_eq_true] at h
        rw [cons_two hk, Bool.and_eq_true]
        exact ⟨prec_cons d _ _ hx hx' h.1, prec_cons d _ _ hy hy' h.2⟩

end Go.Proofs.YtffmpjcjmffdeaaDoor

namespace Go.Proofs.YtffmpjcjmffdeaaDoor
open Go.RowKit

set_option maxHeartbeats 800000 in
theorem implMeetTypes (t u : Ty) (v1 v2 : Value) (f1 f2 : List Nat) (w : World) (h1 : t.At w v1 f1) (h2 : u.At w v2 f2) (hn1 : t.cnt ≤ 1048576) (hn2 : u.cnt ≤ 1048576) :
    Calls Tryd.prog 77 #[v1, v2] w (MadeTB w (meetOf t u) (consOf t u)) := by
  obtain ⟨k, m, a, cap, rfl⟩ := h1.agg
  obtain ⟨k', m', a', cap', rfl⟩ := h2.agg
  have hB := ((((Below.refl w.heap.size w).alloc (Nat.le_refl _) (Obj.cells #[.int .i64 k, .slice a m cap] 32)).alloc (by simp) (Obj.cells #[.int .i64 k', .slice a' m' cap'] 32)).alloc (by simp; omega) (Obj.cells #[.int .i64 0, .slice none 0 0] 32))
  have HN1 := hid hn1
  have HN2 := hid hn2
  clear hn1 hn2
  cases hv : consOf t u with
  | false =>
    have HT := hid (show meetOf t u = .mk 0 [] by simp [meetOf, hv])
    have HV := hid hv
    clear hv
    go_enter Tryd.func77, Tryd.ntmps77
    go_wp2_with fail
    refine (implConsistent t u _ _ _ _ _ (h1.below hB) (h2.below hB)).mono ?_
    rintro e w1 ⟨he, hb3⟩
    rw [HV.out] at he
    subst he
    obtain ⟨x0, x1, x2, x3, r0, r1, rz⟩ := boxes3 hb3
    have hM : w.heap.size + 1 + 1 < w1.heap.size := by have := hb3.size; simp at this; omega
    have hbb := ((alloc3 hb3).setCell (p := ⟨w.heap.size + 1 + 1, 0, none⟩) (by simp; omega) (.int .i64 0)).setCell (p := ⟨w.heap.size + 1 + 1, 1, none⟩) (by simp; omega) (.slice none 0 0)
    go_wp2_with fail
    exact bodyPost_ret (v := .tuple #[.agg #[.int .i64 0, .slice none 0 0], .bool false]) (by simp [results, Tryd.results77, go_sem, r0, r1]) rfl ⟨_, [], rfl, by rw [HT.out]; exact Ty.at_mk.2 ⟨_, rfl, .inl ⟨rfl, rfl, none, 0, rfl⟩⟩, Fresh.nil _ _, hbb⟩
  | true =>
    have HT := hid (show meetOf t u = meet t u by simp [meetOf, hv])
    have hv3 := hv
    simp only [consOf, Bool.and_eq_true] at hv3
    have HW1 := hid (wf_of_vld hv3.1.1)
    have HW2 := hid (wf_of_vld hv3.1.2)
    have HC := hid hv3.2
    have HV := hid hv
    clear hv hv3
    go_enter Tryd.func77, Tryd.ntmps77
    go_wp2_with fail
    refine (implConsistent t u _ _ _ _ _ (h1.below hB) (h2.below hB)).mono ?_
    rintro e w1 ⟨he, hb3⟩
    rw [HV.out] at he
    subst he
    obtain ⟨x0, x1, x2, x3, r0, r1, rz⟩ := boxes3 hb3
    go_wp2_with fail
    refine (walkT_any _ _ known_any callOk_known t u _ _ _ _ _ ((h1.below hB).below hb3) ((h2.below hB).below hb3) HW1.out HW2.out).mono ?_
    rw [wkT_meet t u HC.out]
    rintro e wr ⟨v, f, rfl, hat, hf, hbr⟩
    clear x0 x1 x2 x3 r0 r1 rz
    obtain ⟨kr, nr, ar, capr, rfl⟩ := hat.agg
    have hb4 := hb3.trans (hbr.mono hb3.size)
    obtain ⟨x0, x1, x2, x3, r0, r1, rz⟩ := boxes3 hb4
    have hM : w.heap.size + 1 + 1 < wr.heap.size := by have := hb4.size; simp at this; omega
    have hbb := ((alloc3 hb4).setCell (p := ⟨w.heap.size + 1 + 1, 0, none⟩) (by simp; omega) (.int .i64 kr)).setCell (p := ⟨w.heap.size + 1 + 1, 1, none⟩) (by simp; omega) (.slice ar nr capr)
    have hkr := keepR (R := w.heap.size + 1 + 1) (x := .int .i64 kr) (y := .slice ar nr capr) hat hf (by have := hb3.size; simp at this; omega)
    go_wp2_with fail
    exact bodyPost_ret (v := .tuple #[.agg #[.int .i64 kr, .slice ar nr capr], .bool true]) (by simp [results, Tryd.results77, go_sem, r0, r1]) rfl ⟨_, f, rfl, by rw [HT.out]; exact hkr.1, hkr.2.mono (by have := hb3.size; simp at this; omega), hbb⟩

end Go.Proofs.YtffmpjcjmffdeaaDoor

namespace Go.Proofs.YtffmpjcjmffdeaaDoor
open Go.RowKit

/-- Blocks that were given, or that a call has made. -/
def SrcB (A : List Nat) (w w' : World) (f : List Nat) : Prop := ∀ b ∈ f, b ∈ A ∨ (w.heap.size ≤ b ∧ ∀ o, w'.frozen? ⟨b, o, none⟩ = false)

theorem SrcB.nil (A : List Nat) (w w' : World) : SrcB A w w' [] := fun b hb => by cases hb
theorem SrcB.given {A f : List Nat} {w w' : World} (h : ∀ b ∈ f, b ∈ A) : SrcB A w w' f := fun b hb => .inl (h b hb)
theorem SrcB.fresh {A f : List Nat} {B : Nat} {w w' : World} (h : Fresh B w' f) (hB : w.heap.size ≤ B) : SrcB A w w' f := fun b hb => .inr ⟨Nat.le_trans hB (h.2 b hb).1, (h.2 b hb).2.2⟩
theorem SrcB.append {A f g : List Nat} {w w' : World} (h : SrcB A w w' f) (k : SrcB A w w' g) : SrcB A w w' (f ++ g) := fun b hb => by
  rcases List.mem_append.1 hb with hb | hb
  · exact h b hb
  · exact k b hb
/-- Behind one more call. -/
theorem SrcB.later {A f : List Nat} {w w1 w2 : World} (h : SrcB A w w1 f) (hlt : ∀ b ∈ f, b < w1.heap.size) (hb : Below w1.heap.size w1 w2) : SrcB A w w2 f := fun b hm => by
  rcases h b hm with h | h
  · exact .inl h
  · exact .inr ⟨h.1, fun o => (hb.frozen (p := ⟨b, o, none⟩) (hlt b hm)).trans (h.2 o)⟩
/-- From what another call was given. -/
theorem SrcB.from {A A' f : List Nat} {w w1 w2 : World} (h : SrcB A' w1 w2 f) (hA : SrcB A w w1 A') (hlt : ∀ b ∈ A', b < w1.heap.size) (hs : w.heap.size ≤ w1.heap.size) (hb : Below w1.heap.size w1 w2) : SrcB A w w2 f := fun b hm => by
  rcases h b hm with h | h
  · exact hA.later hlt hb b h
  · exact .inr ⟨Nat.le_trans hs h.1, h.2⟩

set_option maxHeartbeats 1000000 in
set_option maxRecDepth 100000 in
theorem twoPart_any (k : Int) (t u : Ty) (k1 k2 : Int) (n1 n2 c1 c2 : Nat) (a1 a2 : Option Addr) (f1 f2 : List Nat) (w : World) (h1 : t.At w (.agg #[.int .i64 k1, .slice a1 n1 c1]) f1) (h2 : u.At w (.agg #[.int .i64 k2, .slice a2 n2 c2]) f2) :
    Calls Tryd.prog 152 #[.int .i64 k, .agg #[.int .i64 k1, .slice a1 n1 c1], .agg #[.int .i64 k2, .slice a2 n2 c2]] w fun e w' => ∃ a f, e = .returned (.agg #[.int .i64 k, .slice a 2 2]) ∧ (Ty.mk k [t, u]).At w' (.agg #[.int .i64 k, .slice a 2 2]) f ∧ SrcB (f1 ++ f2) w w' f ∧ Below w.heap.size w w' := by
  have hb0 : Below w.heap.size w ((((w.alloc (Obj.cells #[.int .i64 k1, .slice a1 n1 c1] 32)).alloc (Obj.cells #[.int .i64 k2, .slice a2 n2 c2] 32)).alloc (Obj.cells #[.int .i64 k, .slice (some ⟨w.heap.size + 1 + 1 + 1, 0, none⟩) 2 2] 32)).alloc (Obj.cells #[.int .i64 k1, .slice a1 n1 c1, .int .i64 k2, .slice a2 n2 c2] 32)) := ((((Below.refl _ _).alloc (Nat.le_refl _) _).alloc (by simp) _).alloc (by simp; omega) _).alloc (by simp; omega) _
  have hM : (((((w.alloc (Obj.cells #[.int .i64 k1, .slice a1 n1 c1] 32)).alloc (Obj.cells #[.int .i64 k2, .slice a2 n2 c2] 32)).alloc (Obj.cells #[.int .i64 k, .slice (some ⟨w.heap.size + 1 + 1 + 1, 0, none⟩) 2 2] 32)).alloc (Obj.cells #[.int .i64 k1, .slice a1 n1 c1, .int .i64 k2, .slice a2 n2 c2] 32))).heap[w.heap.size + 1 + 1 + 1]? = some (Obj.cells #[.int .i64 k1, .slice a1 n1 c1, .int .i64 k2, .slice a2 n2 c2] 32) := by
    have hs : (((w.alloc (Obj.cells #[.int .i64 k1, .slice a1 n1 c1] 32)).alloc (Obj.cells #[.int .i64 k2, .slice a2 n2 c2] 32)).alloc (Obj.cells #[.int .i64 k, .slice (some ⟨w.heap.size + 1 + 1 + 1, 0, none⟩) 2 2] 32)).heap.size = w.heap.size + 1 + 1 + 1 := by simp
    have h := alloc_new (((w.alloc (Obj.cells #[.int .i64 k1, .slice a1 n1 c1] 32)).alloc (Obj.cells #[.int .i64 k2, .slice a2 n2 c2] 32)).alloc (Obj.cells #[.int .i64 k, .slice (some ⟨w.heap.size + 1 + 1 + 1, 0, none⟩) 2 2] 32)) (Obj.cells #[.int .i64 k1, .slice a1 n1 c1, .int .i64 k2, .slice a2 n2 c2] 32)
    rw [hs] at h
    exact h
  have FIN := hid (show (Ty.mk k [t, u]).At ((((w.alloc (Obj.cells #[.int .i64 k1, .slice a1 n1 c1] 32)).alloc (Obj.cells #[.int .i64 k2, .slice a2 n2 c2] 32)).alloc (Obj.cells #[.int .i64 k, .slice (some ⟨w.heap.size + 1 + 1 + 1, 0, none⟩) 2 2] 32)).alloc (Obj.cells #[.int .i64 k1, .slice a1 n1 c1, .int .i64 k2, .slice a2 n2 c2] 32)) (.agg #[.int .i64 k, .slice (some ⟨w.heap.size + 1 + 1 + 1, 0, none⟩) 2 2]) ((w.heap.size + 1 + 1 + 1) :: (f1 ++ (f2 ++ []))) from
    Ty.at_mk.2 ⟨_, rfl, .inr ⟨w.heap.size + 1 + 1 + 1, 0, 2, _, rfl, by simp, by simp, by simp [maxLen], ⟨_, _, f1, f2 ++ [], by rw [cell_of_block hM]; rfl, by rw [cell_of_block hM]; rfl, h1.below hb0, ⟨_, _, f2, [], by rw [cell_of_block hM]; rfl, by rw [cell_of_block hM]; rfl, h2.below hb0, rfl, rfl⟩, rfl⟩, rfl⟩⟩)
  have HS := hid (show SrcB (f1 ++ f2) w ((((w.alloc (Obj.cells #[.int .i64 k1, .slice a1 n1 c1] 32)).alloc (Obj.cells #[.int .i64 k2, .slice a2 n2 c2] 32)).alloc (Obj.cells #[.int .i64 k, .slice (some ⟨w.heap.size + 1 + 1 + 1, 0, none⟩) 2 2] 32)).alloc (Obj.cells #[.int .i64 k1, .slice a1 n1 c1, .int .i64 k2, .slice a2 n2 c2] 32)) ((w.heap.size + 1 + 1 + 1) :: (f1 ++ (f2 ++ []))) from fun b hb => by
    rcases List.mem_cons.1 hb with rfl | hb
    · exact .inr ⟨by omega, fun o => frozen_of_block hM⟩
    · exact .inl (by simpa using hb))
  have HB := hid hb0
  clear h1 h2 hM hb0
  go_enter Tryd.func152, Tryd.ntmps152
  go_wp2_with fail
  exact bodyPost_ret (v := .agg #[.int .i64 k, .slice (some ⟨w.heap.size + 1 + 1 + 1, 0, none⟩) 2 2]) (by simp [results, Tryd.results152, go_sem]) rfl ⟨_, _, rfl, FIN.out, HS.out, HB.out⟩

/-- One above a pointer's block; nothing for nil. -/
def rk : Value → Nat
  | .pointer (some ⟨b, _, _⟩) => b + 1
  | _ => 0

/-- A pointer that reads as a scope: the innermost binding first; outer scopes are older. -/
def ScAt (w : World) : List Bd → Value → List Nat → Prop
  | [], v, fp => v = .pointer none ∧ fp = []
  | x :: xs, v, fp => ∃ b k n a c o f g, v = .pointer (some ⟨b, 0, none⟩) ∧ w.heap[b]? = some (.cells #[.string x.nm, .int .i64 k, .slice a n c, o] 131 (0, 0)) ∧ x.nm.size ≤ maxLen ∧ x.ty.At w (.agg #[.int .i64 k, .slice a n c]) f ∧ ScAt w xs o g ∧ rk o ≤ b ∧ fp = b :: (f ++ g)

theorem ScAt.lt {w : World} : ∀ {xs : List Bd} {v : Value} {fp : List Nat}, ScAt w xs v fp → ∀ b ∈ fp, b < w.heap.size
  | [], _, _, ⟨_, rfl⟩ => by simp
  | _ :: _, _, _, ⟨b, k, n, a, c, o, f, g, _, hb, _, ht, hs, _, rfl⟩ => fun y hy => by
    rcases List.mem_cons.1 hy with rfl | hy
    · exact lt_of_block hb
    · rcases List.mem_append.1 hy with hy | hy
      · exact ht.lt y hy
      · exact hs.lt y hy

theorem ScAt.below {w w' : World} : ∀ {xs : List Bd} {v : Value} {fp : List Nat}, ScAt w xs v fp → Below w.heap.size w w' → ScAt w' xs v fp
  | [], _, _, h, _ => h
  | _ :: _, _, _, ⟨b, k, n, a, c, o, f, g, hv, hb, hn, ht, hs, hr, hf⟩, h => ⟨b, k, n, a, c, o, f, g, hv, (h.block b (lt_of_block hb)).trans hb, hn, ht.below h, hs.below h, hr, hf⟩

theorem ScAt.rk_le {w : World} : ∀ {xs : List Bd} {v : Value} {fp : List Nat}, ScAt w xs v fp → rk v ≤ w.heap.size
  | [], _, _, ⟨hv, _⟩ => by subst hv; exact Nat.zero_le _
  | _ :: _, _, _, ⟨b, k, n, a, c, o, f, g, hv, hb, _, _, _, _, _⟩ => by subst hv; exact lt_of_block hb

theorem ScAt.ptr {w : World} {xs : List Bd} {v : Value} {fp : List Nat} (h : ScAt w xs v fp) : ∃ a, v = .pointer a := by
  cases xs with
  | nil => exact ⟨_, h.1⟩
  | cons x xs => obtain ⟨b, _, _, _, _, _, _, _, hv, _⟩ := h; exact ⟨_, hv⟩

set_option maxHeartbeats 1000000 in
theorem with_any (xs : List Bd) (p : Option Addr) (fp : List Nat) (nm : ByteArray) (t : Ty) (k : Int) (n : Nat) (a : Option Addr) (c : Nat) (f : List Nat) (w : World) (hs : ScAt w xs (.pointer p) fp) (hn : nm.size ≤ 9223372036854775807) (ht : t.At w (.agg #[.int .i64 k, .slice a n c]) f) :
    Calls Tryd.prog 61 #[.pointer p, .agg #[.string nm, .int .i64 k, .slice a n c]] w fun e w' => ∃ b g, e = .returned (.pointer (some ⟨b, 0, none⟩)) ∧ ScAt w' (⟨nm, t⟩ :: xs) (.pointer (some ⟨b, 0, none⟩)) g ∧ SrcB (f ++ fp) w w' g ∧ Below w.heap.size w w' := by
  have hb0 : Below w.heap.size w ((w.alloc (Obj.cells #[.string nm, .int .i64 k, .slice a n c] 76)).alloc (Obj.cells #[.string nm, .int .i64 k, .slice a n c, .pointer p] 131)) := ((Below.refl _ _).alloc (Nat.le_refl _) _).alloc (by simp) _
  go_enter Tryd.func61, Tryd.ntmps61
  go_wp2_with fail
  go_ret
  have hX : ((w.alloc (Obj.cells #[.string nm, .int .i64 k, .slice a n c] 76)).alloc (Obj.cells #[.string nm, .int .i64 k, .slice a n c, .pointer p] 131)).heap[w.heap.size + 1]? = some (Obj.cells #[.string nm, .int .i64 k, .slice a n c, .pointer p] 131) := by
    have hs1 : (w.alloc (Obj.cells #[.string nm, .int .i64 k, .slice a n c] 76)).heap.size = w.heap.size + 1 := by simp
    rw [← hs1]
    exact alloc_new _ _
  refine ⟨_, _, rfl, ⟨w.heap.size + 1, k, n, a, c, .pointer p, f, fp, rfl, hX, hn, ht.below hb0, hs.below hb0, Nat.le_succ_of_le hs.rk_le, rfl⟩, fun b hb => ?_, hb0⟩
  rcases List.mem_cons.1 hb with rfl | hb
  · exact .inr ⟨by omega, fun o => frozen_of_block hX⟩
  · exact .inl hb

/-- The type of the innermost binding of a name. -/
def look : List Bd → ByteArray → Option Ty
  | [], _ => none
  | x :: xs, nm => if x.nm = nm then some x.ty else look xs nm
end Go.Proofs.YtffmpjcjmffdeaaDoor

namespace Go.Proofs.YtffmpjcjmffdeaaDoor
open Go.RowKit

/-- A tree, which may share the memory of what was given, and a bool. -/
def SeenTB (A : List Nat) (w : World) (t : Ty) (b : Bool) (e : Ending) (w' : World) : Prop :=
  ∃ k n a c f, e = .returned (.tuple #[.agg #[.int .i64 k, .slice a n c], .bool b]) ∧ t.At w' (.agg #[.int .i64 k, .slice a n c]) f ∧ (∀ b ∈ f, b ∈ A) ∧ Below w.heap.size w w'

theorem toList_ne {x y : ByteArray} (h : x ≠ y) : (x.toList == y.toList) = false := by
  rw [beq_eq_false_iff_ne]
  intro he
  rw [Lib.toList_data, Lib.toList_data] at he
  exact h (ByteArray.ext (Array.toList_inj.1 he))

set_option maxHeartbeats 1000000 in
set_option maxRecDepth 100000 in
theorem find_any (xs : List Bd) (p : Option Addr) (fp : List Nat) (nm : ByteArray) (w : World) (hs : ScAt w xs (.pointer p) fp) (hn : nm.size ≤ 9223372036854775807) :
    Calls Tryd.prog 151 #[.pointer p, .string nm] w (SeenTB fp w ((look xs nm).getD (.mk 0 [])) (look xs nm).isSome) := by
  have HS := hid hs
  have HN := hid hn
  clear hs hn
  go_enter Tryd.func151, Tryd.ntmps151
  go_wp2_with fail
  go_loopw [0] (fun q wr => ∃ ys g, ScAt w ys q g ∧ look ys nm = look xs nm ∧ (∀ b ∈ g, b ∈ fp) ∧ wr = w.alloc (Obj.cells #[.int .i64 0, .slice none 0 0] 32))
    (fun q _ => rk q)
  case atStart => exact ⟨xs, fp, HS.out, rfl, fun _ h => h, rfl⟩
  case round =>
    obtain ⟨ys, g, hy, hl, hsub, rfl⟩ := hrel
    have HSUB := hid hsub
    clear hsub
    have HL := hid hl
    rw [← hl]
    clear hl
    have hb0 : Below w.heap.size w (w.alloc (Obj.cells #[.int .i64 0, .slice none 0 0] 32)) := (Below.refl _ _).alloc (Nat.le_refl _) _
    have y0 : (w.alloc (Obj.cells #[.int .i64 0, .slice none 0 0] 32)).cell? ⟨w.heap.size, 0, none⟩ = some (.int .i64 0) := by rw [cell_of_block (alloc_new _ _)]; rfl
    cases ys with
    | nil =>
      obtain ⟨rfl, rfl⟩ := hy
      have HB := hid hb0
      clear hb0
      go_wp2_with fail
      refine bodyPost_ret (v := .tuple #[.agg #[.int .i64 0, .slice none 0 0], .bool false]) (by simp [results, Tryd.results151, go_sem]) rfl ?_
      rw [← HL.out]
      exact ⟨0, 0, none, 0, [], rfl, Ty.at_mk.2 ⟨_, rfl, .inl ⟨rfl, rfl, _, _, rfl⟩⟩, (fun b hb => by cases hb), HB.out⟩
    | cons x ys =>
      obtain ⟨b, k, n, a, c, o, f, g', rfl, hb, hnm, ht, hs, hr, rfl⟩ := hy
      have hbw := lt_of_block hb
      replace hb := (hb0.block b hbw).trans hb
      have hblt := lt_of_block hb
      obtain ⟨oa, rfl⟩ := hs.ptr
      have c0 : (w.alloc (Obj.cells #[.int .i64 0, .slice none 0 0] 32)).cell? ⟨b, 0, none⟩ = some (.string x.nm) := by rw [cell_of_block hb]; rfl
      have c1 : (w.alloc (Obj.cells #[.int .i64 0, .slice none 0 0] 32)).cell? ⟨b, 1, none⟩ = some (.int .i64 k) := by rw [cell_of_block hb]; rfl
      have c2 : (w.alloc (Obj.cells #[.int .i64 0, .slice none 0 0] 32)).cell? ⟨b, 2, none⟩ = some (.slice a n c) := by rw [cell_of_block hb]; rfl
      have c3 : (w.alloc (Obj.cells #[.int .i64 0, .slice none 0 0] 32)).cell? ⟨b, 3, none⟩ = some (.pointer oa) := by rw [cell_of_block hb]; rfl
      by_cases hx : x.nm = nm
      · have hx1 : (x.nm.toList == nm.toList) = true := by rw [hx, beq_self_eq_true]
        have hl : look (x :: ys) nm = some x.ty := by rw [look, if_pos hx]
        have FIN := hid (ht.below ((Below.refl _ _).alloc (Nat.le_refl _) (Obj.cells #[.int .i64 k, .slice a n c] 32)))
        have HB := hid hb0
        clear ht hs hb hb0 hr
        go_wp2_with fail
        refine bodyPost_ret (v := .tuple #[.agg #[.int .i64 k, .slice a n c], .bool true]) (by simp [results, Tryd.results151, go_sem]) rfl ?_
        rw [hl]
        exact ⟨k, n, a, c, f, rfl, FIN.out, (fun b hb => HSUB.out b (by simp [hb])), (Below.refl _ _).alloc (Nat.le_refl _) _⟩
      · have hx1 : (x.nm.toList == nm.toList) = false := toList_ne hx
        have hl : look (x :: ys) nm = look ys nm := by rw [look, if_neg hx]
        have FIN := hid hs
        have HR := hid hr
        have HB := hid hb0
        clear ht hs hb hb0 hr
        go_wp2_with fail
        exact ⟨⟨ys, g', FIN.out, hl.symm, (fun b hb => HSUB.out b (by simp [hb])), trivial⟩, Nat.lt_succ_of_le HR.out⟩
end Go.Proofs.YtffmpjcjmffdeaaDoor

namespace Go.Proofs.YtffmpjcjmffdeaaDoor
open Go.RowKit

theorem look_take {xs : List Bd} {k : Nat} (h : k < xs.length) (nm : ByteArray) : look (xs.take (k + 1)).reverse nm = if xs[k].nm = nm then some xs[k].ty else look (xs.take k).reverse nm := by
  rw [List.take_succ_eq_append_getElem h, List.reverse_append]
  rfl

theorem one_box {w wr : World} {x y : Value} {T : TypeId} (h : Below (w.alloc (Obj.cells #[x, y] T)).heap.size (w.alloc (Obj.cells #[x, y] T)) wr) :
    wr.cell? ⟨w.heap.size, 0, none⟩ = some x ∧ wr.cell? ⟨w.heap.size, 1, none⟩ = some y ∧ (∀ o, wr.frozen? ⟨w.heap.size, o, none⟩ = false) ∧ w.heap.size < wr.heap.size := by
  have K : wr.heap[w.heap.size]? = some (Obj.cells #[x, y] T) := by
    rw [h.block w.heap.size (by simp)]
    exact alloc_new _ _
  exact ⟨cell_of_block K, cell_of_block K, fun o => frozen_of_block K, lt_of_block K⟩

set_option maxHeartbeats 1000000 in
set_option maxRecDepth 100000 in
theorem l3Look_any (xs : List Bd) (s : Value) (fp : List Nat) (nm : ByteArray) (w : World) (hs : BsAt w xs s fp) (hn : ∀ x ∈ xs, x.ty.cnt ≤ 1048576) :
    Calls Tryd.prog 110 #[s, .string nm] w (MadeTB w ((look xs.reverse nm).getD (.mk 0 [])) (look xs.reverse nm).isSome) := by
  obtain ⟨a, cap, rfl, hc, hm, hget⟩ := hs.open
  have HG := hid hget
  have HN := hid hn
  clear hget hs hn
  have hb0 : Below w.heap.size w (w.alloc (Obj.cells #[.int .i64 0, .slice none 0 0] 32)) := (Below.refl _ _).alloc (Nat.le_refl _) _
  have HB := hid hb0
  have Y := one_box (Below.refl _ (w.alloc (Obj.cells #[.int .i64 0, .slice none 0 0] 32)))
  obtain ⟨y0, y1, yz, ylt⟩ := Y
  go_enter Tryd.func110, Tryd.ntmps110
  go_wp2_with fail
  go_loopw [6] (fun i wr => ∃ k : Nat, k ≤ xs.length ∧ i = .int .i64 ((k : Int) - 1) ∧ look (xs.take k).reverse nm = look xs.reverse nm ∧ wr = w.alloc (Obj.cells #[.int .i64 0, .slice none 0 0] 32))
    (fun i _ => (intOf i + 1).toNat)
  case atStart => exact ⟨xs.length, Nat.le_refl _, rfl, by rw [List.take_length], rfl⟩
  case round =>
    obtain ⟨k, hk, rfl, hl, rfl⟩ := hrel
    cases k with
    | zero =>
      have HL := hid hl
      clear hl
      go_wp2_with fail
      refine bodyPost_ret (v := .tuple #[.agg #[.int .i64 0, .slice none 0 0], .bool false]) (by simp [results, Tryd.results110, go_sem]) rfl ?_
      rw [← HL.out]
      exact ⟨_, [], rfl, Ty.at_mk.2 ⟨_, rfl, .inl ⟨rfl, rfl, _, _, rfl⟩⟩, Fresh.nil _ _, HB.out⟩
    | succ k =>
      have hlk : k < xs.length := hk
      obtain ⟨b, o, m, k1, n1, a1, c1, f, rfl, hblt, hmn, hms, c0, d1, c2, hat, -⟩ := HG.out k hlk
      rw [look_take hlk] at hl
      replace c0 := (hb0.cell (p := ⟨b, o + k * 3, none⟩) hblt).trans c0
      replace d1 := (hb0.cell (p := ⟨b, o + k * 3 + 1, none⟩) hblt).trans d1
      replace c2 := (hb0.cell (p := ⟨b, o + k * 3 + 2, none⟩) hblt).trans c2
      have he : ((k + 1 : Nat) : Int) - 1 = (k : Int) := by omega
      rw [he]
      clear he
      by_cases hx : m = nm
      · have hx1 : (m.toList == nm.toList) = true := by rw [hx, beq_self_eq_true]
        rw [if_pos (hmn.symm.trans hx)] at hl
        have HL := hid hl
        have HA := hid (hat.below hb0)
        have HM := hid (HN.out _ (List.getElem_mem hlk))
        clear hl hat hb0 hmn
        go_wp2_with fail
        refine (l1Copy_any _ _ _ _ HA.out HM.out).mono ?_
        rintro e w1 ⟨v1, f1, rfl, hat1, hf1, hb1⟩
        obtain ⟨kr, nr, ar, capr, rfl⟩ := hat1.agg
        obtain ⟨r0, r1, rz, rlt⟩ := one_box hb1
        have hkr := keepR (R := w.heap.size) (x := .int .i64 kr) (y := .slice ar nr capr) hat1 hf1 (by simp)
        have hbb := ((HB.out.trans (hb1.mono HB.out.size)).setCell (p := ⟨w.heap.size, 0, none⟩) (by simp) (.int .i64 kr)).setCell (p := ⟨w.heap.size, 1, none⟩) (by simp) (.slice ar nr capr)
        go_wp2_with fail
        refine bodyPost_ret (v := .tuple #[.agg #[.int .i64 kr, .slice ar nr capr], .bool true]) (by simp [results, Tryd.results110, go_sem, r0, r1]) rfl ?_
        rw [← HL.out]
        exact ⟨_, f1, rfl, hkr.1, hkr.2.mono (by simp), hbb⟩
      · have hx1 : (m.toList == nm.toList) = false := toList_ne hx
        rw [if_neg (fun h => hx (hmn.trans h))] at hl
        have HL := hid hl
        clear hl hat hb0 hmn
        go_wp2_with fail
        exact ⟨⟨k, by omega, by go_num, HL.out, trivial⟩, by simp [intOf]⟩
end Go.Proofs.YtffmpjcjmffdeaaDoor

namespace Go.Proofs.YtffmpjcjmffdeaaDoor
open Go.RowKit

set_option maxHeartbeats 2000000 in
set_option maxRecDepth 100000 in
theorem l3Two_any (k : Int) (t u : Ty) (v1 v2 : Value) (f1 f2 : List Nat) (w : World) (h1 : t.At w v1 f1) (h2 : u.At w v2 f2) (hn1 : t.cnt ≤ 1048576) (hn2 : u.cnt ≤ 1048576) :
    Calls Tryd.prog 114 #[.int .i64 k, v1, v2] w (MadeTB w (.mk k [t, u]) (vld (.mk k [t, u]))) := by
  obtain ⟨k1, n1, a1, c1, rfl⟩ := h1.agg
  obtain ⟨k2, n2, a2, c2, rfl⟩ := h2.agg
  have hB := ((((Below.refl w.heap.size w).alloc (Nat.le_refl _) (Obj.cells #[.int .i64 k1, .slice a1 n1 c1] 32)).alloc (by simp) (Obj.cells #[.int .i64 k2, .slice a2 n2 c2] 32)).alloc (by simp; omega) (Obj.cells #[.int .i64 0, .slice none 0 0] 32))
  have H1 := hid (h1.below hB)
  have H2 := hid (h2.below hB)
  obtain ⟨x0, x1, x2, x3, r0, r1, rz⟩ := boxes3 (Below.refl (((w.alloc (Obj.cells #[.int .i64 k1, .slice a1 n1 c1] 32)).alloc (Obj.cells #[.int .i64 k2, .slice a2 n2 c2] 32)).alloc (Obj.cells #[.int .i64 0, .slice none 0 0] 32)).heap.size (((w.alloc (Obj.cells #[.int .i64 k1, .slice a1 n1 c1] 32)).alloc (Obj.cells #[.int .i64 k2, .slice a2 n2 c2] 32)).alloc (Obj.cells #[.int .i64 0, .slice none 0 0] 32)))
  have hs3 : (((w.alloc (Obj.cells #[.int .i64 k1, .slice a1 n1 c1] 32)).alloc (Obj.cells #[.int .i64 k2, .slice a2 n2 c2] 32)).alloc (Obj.cells #[.int .i64 0, .slice none 0 0] 32)).heap.size = w.heap.size + 1 + 1 + 1 := by simp
  have HS3 := hid hs3
  have HB := hid hB
  have RZ := hid rz
  clear h1 h2 hB hs3 rz
  go_enter Tryd.func114, Tryd.ntmps114
  go_wp2_with fail
  generalize (((w.alloc (Obj.cells #[.int .i64 k1, .slice a1 n1 c1] 32)).alloc (Obj.cells #[.int .i64 k2, .slice a2 n2 c2] 32)).alloc (Obj.cells #[.int .i64 0, .slice none 0 0] 32)) = Z at *
  go_cut [8] (fun s8 wx => ∃ (b8 : Nat) (k3 : Int) (n3 : Nat) (c3 : Option Addr) (cap3 : Nat) (g3 : List Nat), s8 = .pointer (some ⟨b8, 0, none⟩) ∧ Z.heap.size ≤ b8 ∧ Below Z.heap.size Z wx ∧ wx.cell? ⟨b8, 0, none⟩ = some (.int .i64 k3) ∧ wx.cell? ⟨b8, 1, none⟩ = some (.slice c3 n3 cap3) ∧ (Ty.mk k [t, u]).At wx (.agg #[.int .i64 k3, .slice c3 n3 cap3]) g3 ∧ Fresh Z.heap.size wx g3)
  case first =>
    go_region_held3 (fun w' => (Below Z.heap.size Z w' ∧ w'.cell? ⟨w.heap.size, 0, none⟩ = some (.int .i64 k1) ∧ w'.cell? ⟨w.heap.size, 1, none⟩ = some (.slice a1 n1 c1) ∧ w'.cell? ⟨w.heap.size + 1, 0, none⟩ = some (.int .i64 k2) ∧ w'.cell? ⟨w.heap.size + 1, 1, none⟩ = some (.slice a2 n2 c2)))
      ((refine (fun hB => ⟨hB, cell_keep x0 hB, cell_keep x1 hB, cell_keep x2 hB, cell_keep x3 hB⟩ : Below Z.heap.size Z _ → _) ?_; (first | exact below_drew Z | exact hk2 | exact hk1 | (go_split_ands; first | exact Below.alloc (by assumption) (Below.size (by assumption)) _ | exact ((hk2.setCell (by first | exact hk1.size | exact Nat.le_refl _ | (simp; done)) _).setCell (by first | exact hk1.size | exact Nat.le_refl _ | (simp; done)) _).alloc (by have := hk2.size; simp; omega) _ | exact (hk2.alloc hk2.size _).alloc (by have := hk2.size; simp; omega) _ | exact ((hk2.alloc hk2.size _).setCell (by first | exact hk1.size | exact Nat.le_refl _ | (simp; done)) _).setCell (by first | exact hk1.size | exact Nat.le_refl _ | (simp; done)) _ | exact (((hk2.alloc hk2.size _).alloc (by have := hk2.size; simp; omega) _).setCell (by have := hk2.size; simp; omega) _).setCell (by have := hk2.size; simp; omega) _))))
      (first
        | (go_at_call 124; have hk0 := hk1; go_split_ands; refine (l1Copy_any u _ _ _ (H2.out.below (by assumption)) hn2).mono ?_; rintro e y2 ⟨u2, g2, rfl, hu2, hg2, hy2⟩; obtain ⟨k4, n4, a4, c4, rfl⟩ := hu2.agg; have hk2 : Below Z.heap.size Z y2 := below_trans (by assumption) hy2; have hY : Below y1.heap.size y1 y2 := (by first | exact hy2 | exact alloc1 hy2); have HU1 := hid (hu1.below hY); have HG1 : Hid (Fresh Z.heap.size y2 g1) := hid ((hg1.below hY).mono (by first | exact Nat.le_refl _ | simp)); have HG2 : Hid (Fresh y1.heap.size y2 g2) := hid (hg2.mono (by first | exact Nat.le_refl _ | simp)); have HMM := hid (fun b (hb : b ∈ g1) => (hg1.2 b hb).2.1); have HGA := hid hg1; have HGB := hid hg2; have HSA := hid (And.intro hk1.size hk2.size); (first | have Q2 := (hy2.block _ (lt_of_block Q1)).trans Q1 | have Q2 := (hy2.block y1.heap.size (by simp)).trans (alloc_new y1 _) | skip); (first | (have f0 := frozen_of_block (o := 0) Q2; have f1 := frozen_of_block (o := 1) Q2; have f2 := (cell_of_block (o := 0) Q2); have f3 := (cell_of_block (o := 1) Q2); have f4 := lt_of_block Q2; have f5 := Nat.ne_of_lt f4) | skip))
        | (go_at_call 124; go_split_ands; refine (l1Copy_any t _ _ _ (H1.out.below (by assumption)) hn1).mono ?_; rintro e y1 ⟨u1, g1, rfl, hu1, hg1, hy1⟩; obtain ⟨k3, n3, a3, c3, rfl⟩ := hu1.agg; have hk1 : Below Z.heap.size Z y1 := below_trans (by assumption) hy1; (first | have Q1 : y1.heap[Z.heap.size]? = some (Obj.cells #[.int .i64 0, .slice none 0 0] 32) := (hy1.block Z.heap.size (by first | (show Z.heap.size < (Z.alloc _).heap.size; simp) | simp)).trans (alloc_new Z _) | skip)))
    all_goals
      go_wp2_with fail
      go_meet
      go_split_ands
      first
        | (refine ⟨y2.heap.size + 1, k, 2, some ⟨y2.heap.size, 0, none⟩, 2, y2.heap.size :: (g1 ++ (g2 ++ [])), ?_, ?_, ?_, ?_, ?_, ?_⟩; (with_reducible rfl); (have h9 := HSA.out; omega); (first | with_reducible assumption | exact (hk2.alloc hk2.size _).alloc (by have := hk2.size; simp; omega) _); (rw [cell_of_block (fin_a _ _).2.1]; rfl); (rw [cell_of_block (fin_a _ _).2.1]; rfl); exact two_in HU1.out hu2 HG1.out HG2.out HMM.out HSA.out.1 HSA.out.2 (Nat.le_refl _) (fin_a _ _).1 (fin_a _ _).2.2 (fun b hb => Nat.ne_of_lt (HG1.out.2 b hb).2.1) (fun b hb => Nat.ne_of_lt (HG2.out.2 b hb).2.1))
        | (refine ⟨y1.heap.size, k, 2, some ⟨y2.heap.size, 0, none⟩, 2, y2.heap.size :: (g1 ++ (g2 ++ [])), ?_, ?_, ?_, ?_, ?_, ?_⟩; (with_reducible rfl); (have h9 := HSA.out; omega); (first | with_reducible assumption | exact (hk2.alloc hk2.size _).alloc (by have := hk2.size; simp; omega) _); (rw [cell_of_block (fin_b Q2 _ _ _).2.1]; rfl); (rw [cell_of_block (fin_b Q2 _ _ _).2.1]; rfl); exact two_in HU1.out hu2 HG1.out HG2.out HMM.out HSA.out.1 HSA.out.2 (Nat.le_refl _) (fin_b Q2 _ _ _).1 (fin_b Q2 _ _ _).2.2 (fun b hb => Nat.ne_of_lt (HGA.out.2 b hb).2.1) (fun b hb => by have h5 := (HGB.out.2 b hb).1; simp at h5; omega))
        | (refine ⟨Z.heap.size, k, 2, some ⟨y2.heap.size, 0, none⟩, 2, y2.heap.size :: (g1 ++ (g2 ++ [])), ?_, ?_, ?_, ?_, ?_, ?_⟩; (with_reducible rfl); (have h9 := HSA.out; omega); (first | with_reducible assumption | exact (hk2.alloc hk2.size _).alloc (by have := hk2.size; simp; omega) _); (rw [cell_of_block (fin_b Q2 _ _ _).2.1]; rfl); (rw [cell_of_block (fin_b Q2 _ _ _).2.1]; rfl); exact two_in HU1.out hu2 HG1.out HG2.out HMM.out HSA.out.1 HSA.out.2 (Nat.le_refl _) (fin_b Q2 _ _ _).1 (fin_b Q2 _ _ _).2.2 (fun b hb => by have h5 := (HGA.out.2 b hb).1; simp at h5; omega) (fun b hb => by have h5 := (HGB.out.2 b hb).1; have h6 := hy1.size; simp at h5 h6; omega))
        | (refine ⟨y2.heap.size, k, 2, some ⟨y2.heap.size + 1, 0, none⟩, 2, (y2.heap.size + 1) :: (g1 ++ (g2 ++ [])), ?_, ?_, ?_, ?_, ?_, ?_⟩; (with_reducible rfl); (have h9 := HSA.out; omega); (first | with_reducible assumption | exact (hk2.alloc hk2.size _).alloc (by have := hk2.size; simp; omega) _); (rw [cell_of_block (fin_a _ _).1]; rfl); (rw [cell_of_block (fin_a _ _).1]; rfl); exact two_in HU1.out hu2 HG1.out HG2.out HMM.out HSA.out.1 HSA.out.2 (by omega) (fin_a _ _).2.1 (fin_a _ _).2.2 (fun b hb => Nat.ne_of_lt (HG1.out.2 b hb).2.1) (fun b hb => Nat.ne_of_lt (HG2.out.2 b hb).2.1))
  case rest =>
  obtain ⟨b8, k3, n3, c3, cap3, g3, rfl, hb8, hb, e0, e1, hat, hf⟩ := hcut
  have q0 : wc.cell? ⟨w.heap.size + 1 + 1, 0, none⟩ = some (.int .i64 0) := cell_keep r0 hb
  have q1 : wc.cell? ⟨w.heap.size + 1 + 1, 1, none⟩ = some (.slice none 0 0) := cell_keep r1 hb
  have hlt : w.heap.size + 1 + 1 < wc.heap.size := by have := hb.size; have := HS3.out; omega
  have qz : ∀ o, wc.frozen? ⟨w.heap.size + 1 + 1, o, none⟩ = false := fun o => (hb.frozen (p := ⟨w.heap.size + 1 + 1, o, none⟩) (by have := HS3.out; simp; omega)).trans (RZ.out o)
  have hne : b8 ≠ w.heap.size + 1 + 1 := by have := HS3.out; omega
  have HAT := hid hat
  have HF := hid hf
  have HBB := hid hb
  have HE := hid (And.intro e0 e1)
  have S0 := hid (show wc.drew.cell? ⟨b8, 0, none⟩ = some (.int .i64 k3) ∧ wc.drew.cell? ⟨b8, 1, none⟩ = some (.slice c3 n3 cap3) from ⟨cell_keep e0 (below_drew wc), cell_keep e1 (below_drew wc)⟩)
  clear hat hf hb x0 x1 x2 x3 r0 r1
  go_wp2_with fail
  go_region_held3 (fun w' => w'.cell? ⟨b8, 0, none⟩ = some (.int .i64 k3) ∧ w'.cell? ⟨b8, 1, none⟩ = some (.slice c3 n3 cap3))
    ((first | with_reducible exact S0.out | with_reducible exact S1.out | with_reducible exact S2.out _ _))
    (first
      | (go_at_call 108; refine (specTypeValid_any (.mk k [t, u]) _ _ _ (HAT.out.below (below_drew wc))).mono ?_; rintro e y3 ⟨rfl, hy3⟩; have hk3 := below_trans (below_drew wc) hy3; have S1 := hid (show y3.cell? ⟨b8, 0, none⟩ = some (.int .i64 k3) ∧ y3.cell? ⟨b8, 1, none⟩ = some (.slice c3 n3 cap3) from ⟨cell_keep HE.out.1 hk3, cell_keep HE.out.2 hk3⟩); have S2 := hid (fun x z => (show ((y3.setCell ⟨w.heap.size + 1 + 1, 0, none⟩ x).setCell ⟨w.heap.size + 1 + 1, 1, none⟩ z).cell? ⟨b8, 0, none⟩ = some (.int .i64 k3) ∧ ((y3.setCell ⟨w.heap.size + 1 + 1, 0, none⟩ x).setCell ⟨w.heap.size + 1 + 1, 1, none⟩ z).cell? ⟨b8, 1, none⟩ = some (.slice c3 n3 cap3) from ⟨two_set_keep S1.out.1 hne _ _, two_set_keep S1.out.2 hne _ _⟩)); have p0 := cell_keep q0 hk3; have p1 := cell_keep q1 hk3; have hlt3 : w.heap.size + 1 + 1 < y3.heap.size := Nat.lt_of_lt_of_le hlt hk3.size; have pz : ∀ o, y3.frozen? ⟨w.heap.size + 1 + 1, o, none⟩ = false := fun o => (hk3.frozen (p := ⟨w.heap.size + 1 + 1, o, none⟩) hlt).trans (qz o)))
  have hkr := keepR (R := w.heap.size + 1 + 1) (x := .int .i64 k3) (y := .slice c3 n3 cap3) (HAT.out.below hk3) (HF.out.below hk3) (by have := HS3.out; omega)
  have hbb := ((HB.out.trans ((HBB.out.trans (hk3.mono HBB.out.size)).mono HB.out.size)).setCell (p := ⟨w.heap.size + 1 + 1, 0, none⟩) (by simp; omega) (.int .i64 k3)).setCell (p := ⟨w.heap.size + 1 + 1, 1, none⟩) (by simp; omega) (.slice c3 n3 cap3)
  have FIN := hid (And.intro hkr hbb)
  have HZ := hid HB.out.size
  clear hkr hbb HB HBB HAT HF HE S0 S1 S2 hk3 hy3
  go_wp2_with fail
  exact bodyPost_ret (v := .tuple #[.agg #[.int .i64 k3, .slice c3 n3 cap3], .bool (vld (.mk k [t, u]))]) (by simp [results, Tryd.results114, go_sem, p0, p1]) rfl ⟨_, g3, rfl, FIN.out.1.1, FIN.out.1.2.mono HZ.out, FIN.out.2⟩
end Go.Proofs.YtffmpjcjmffdeaaDoor

/- The document's chapter 6 as plain functions on coercions. Coercions of casts, what a coercion leads to, and composition, as plain functions. Coercions made of others: rows of one and of two, and what is stored into a result's cell. The tag of a coercion: the specification's l6Tag. The tag of a coercion: the program's tagOf. What a visit leaves: worlds in which only new blocks, one variable and a slice's own block are written. The program's eachCoercion, over any visit that has a contract. The labels of a coercion: collected and sorted, or each put in its place: the same list. The coercion of a cast is valid but for its depth; its size. A slice of numbers of the call's own. The program's CoercionLabels: the visit of one cast. The laws' own helper eqCoercion: equality of trees, at every level. Numbers of the call's own, sorted and compacted: the program's sortedLabels. TypeSame, of the specification. -/
import Derived.Test.YtolhfcpmhhhjpaaRCo
import Derived.Test.YtolhfcpmhhhjpaaRPkA
import Derived.Test.YtolhfcpmhhhjpaaRG1
import Derived.Lib.SlicesCompact
import Derived.StillTailTactics
import Derived.Sort.OwnSortedInts
namespace Go.Proofs.Ytolhfcpmhhhjpaa
open Go.RowKit

def plainC : Co → Bool
  | .mk k g _ _ => k == 2 || k == 3 || k == 1 && g != 1

def unkC : Co → Bool
  | .mk k g _ _ => k == 5 || k == 1 && g == 1

/-- A node is right but for what lies below it. -/
def nodeC (k g l : Int) (ts : List Co) : Bool :=
  if k = 1 then ts.length == 0 && l == 0 && (decide (1 ≤ g) && decide (g ≤ 3))
  else if k = 2 ∨ k = 3 then ts.length == 2 && l == 0 && g == 0
  else if k = 4 then ts.length == 1 && l == 0 && g == 0 && ts.all plainC
  else if k = 5 then ts.length == 1 && isLb l && g == 0 && ts.all (fun t => !unkC t)
  else if k = 6 then ts.length == 0 && isLb l && (decide (2 ≤ g) && decide (g ≤ 5))
  else false

def shpK : Nat → Co → Bool
  | 0, _ => false
  | d + 1, .mk k g l ts => nodeC k g l ts && ts.all (shpK d)

/-- The document's CoercionValid. -/
def vldK (t : Co) : Bool := shpK 9 t

mutual
def tagC : Co → Int
  | .mk k g _ ts => if k = 2 then 4 else if k = 3 then 5 else if k = 4 then tagL ts else g
def tagL : List Co → Int
  | [] => 0
  | t :: _ => tagC t
end



mutual
/-- Identities, functions and pairs only. -/
def idC : Co → Bool
  | .mk k _ _ ts => (k == 1 || (k == 2 || k == 3)) && idL ts
def idL : List Co → Bool
  | [] => true
  | t :: ts => idC t && idL ts
end

theorem shpK_all {d : Nat} {ts : List Co} {k : Nat} (h : k < ts.length) : (ts.drop k).all (shpK d) = (shpK d ts[k] && (ts.drop (k + 1)).all (shpK d)) := by
  rw [List.drop_eq_getElem_cons h, List.all_cons]

theorem shpK_up : ∀ {d e : Nat} {t : Co}, d ≤ e → shpK d t = true → shpK e t = true
  | 0, _, _, _, h => by simp [shpK] at h
  | d + 1, 0, _, hde, _ => by omega
  | d + 1, e + 1, .mk k g l ts, hde, h => by
    simp only [shpK, Bool.and_eq_true, List.all_eq_true] at h ⊢
    exact ⟨h.1, fun t ht => shpK_up (by omega) (h.2 t ht)⟩

theorem shpK_node {d : Nat} {k g l : Int} {ts : List Co} (h : shpK (d + 1) (.mk k g l ts) = true) : nodeC k g l ts = true ∧ ∀ t ∈ ts, shpK d t = true := by
  simpa only [shpK, Bool.and_eq_true, List.all_eq_true] using h

/-- What a right node looks like. -/
theorem nodeC_cases {k g l : Int} {ts : List Co} (h : nodeC k g l ts = true) :
    (k = 1 ∧ ts = [] ∧ l = 0 ∧ 1 ≤ g ∧ g ≤ 3) ∨ (k = 2 ∧ g = 0 ∧ l = 0 ∧ ∃ a b, ts = [a, b]) ∨ (k = 3 ∧ g = 0 ∧ l = 0 ∧ ∃ a b, ts = [a, b]) ∨
    (k = 4 ∧ g = 0 ∧ l = 0 ∧ ∃ a, ts = [a] ∧ plainC a = true) ∨ (k = 5 ∧ g = 0 ∧ isLb l = true ∧ ∃ a, ts = [a] ∧ unkC a = false) ∨ (k = 6 ∧ ts = [] ∧ isLb l = true ∧ 2 ≤ g ∧ g ≤ 5) := by
  unfold nodeC at h
  by_cases h1 : k = 1
  · subst h1
    simp [List.length_eq_zero_iff] at h
    exact .inl ⟨rfl, h.1.1, h.1.2, h.2.1, h.2.2⟩
  rw [if_neg h1] at h
  by_cases h2 : k = 2 ∨ k = 3
  · rw [if_pos h2] at h
    simp only [Bool.and_eq_true, beq_iff_eq] at h
    obtain ⟨⟨hl, rfl⟩, rfl⟩ := h
    match ts, hl with
    | [a, b], _ => rcases h2 with rfl | rfl
                   · exact .inr (.inl ⟨rfl, rfl, rfl, a, b, rfl⟩)
                   · exact .inr (.inr (.inl ⟨rfl, rfl, rfl, a, b, rfl⟩))
  rw [if_neg h2] at h
  by_cases h4 : k = 4
  · subst h4
    simp only [if_true, Bool.and_eq_true, beq_iff_eq] at h
    obtain ⟨⟨⟨hl, rfl⟩, rfl⟩, ha⟩ := h
    match ts, hl with
    | [a], _ => exact .inr (.inr (.inr (.inl ⟨rfl, rfl, rfl, a, rfl, by simpa using ha⟩)))
  rw [if_neg h4] at h
  by_cases h5 : k = 5
  · subst h5
    simp only [if_true, Bool.and_eq_true, beq_iff_eq] at h
    obtain ⟨⟨⟨hl, hb⟩, rfl⟩, ha⟩ := h
    match ts, hl with
    | [a], _ => exact .inr (.inr (.inr (.inr (.inl ⟨rfl, rfl, hb, a, rfl, by simpa using ha⟩))))
  rw [if_neg h5] at h
  by_cases h6 : k = 6
  · subst h6
    simp only [if_true, Bool.and_eq_true, beq_iff_eq, decide_eq_true_eq, List.length_eq_zero_iff] at h
    exact .inr (.inr (.inr (.inr (.inr ⟨rfl, h.1.1, h.1.2, h.2.1, h.2.2⟩))))
  rw [if_neg h6] at h
  cases h

end Go.Proofs.Ytolhfcpmhhhjpaa

namespace Go.Proofs.Ytolhfcpmhhhjpaa
open Go.RowKit

theorem shpK_tag : ∀ {d : Nat} {t : Co}, shpK d t = true → unkC t = false → 2 ≤ tagC t ∧ tagC t ≤ 5
  | 0, _, h, _ => by simp [shpK] at h
  | d + 1, .mk k g l ts, h, hu => by
    obtain ⟨hn, hs⟩ := shpK_node h
    rcases nodeC_cases hn with ⟨rfl, rfl, rfl, h1, h2⟩ | ⟨rfl, rfl, rfl, a, b, rfl⟩ | ⟨rfl, rfl, rfl, a, b, rfl⟩ | ⟨rfl, rfl, rfl, a, rfl, hp⟩ | ⟨rfl, rfl, hl, a, rfl, hp⟩ | ⟨rfl, rfl, hl, h1, h2⟩
    · simp [unkC] at hu
      simp [tagC]
      omega
    · simp [tagC]
    · simp [tagC]
    · have hu' : unkC a = false := by
        obtain ⟨ka, ga, la, ta, rfl⟩ := a.shape
        simp only [plainC, unkC] at hp ⊢
        simp at hp ⊢
        omega
      have := shpK_tag (hs a (by simp)) hu'
      simpa [tagC, tagL] using this
    · simp [unkC] at hu
    · simp [tagC]
      omega

def kidsT' : Ty → List Ty
  | .mk _ ts => ts

/-- The coercion leads from the one type to the other. -/
def typC : Nat → Co → Ty → Ty → Bool
  | 0, _, _, _ => false
  | d + 1, .mk k g _ ts, f, t =>
    if k = 1 then kindT f == g && kindT t == g
    else if k = 2 then
      match ts, kidsT' f, kidsT' t with
      | [a, b], [f1, f2], [t1, t2] => kindT f == 4 && (kindT t == 4 && (typC d a t1 f1 && typC d b f2 t2))
      | _, _, _ => false
    else if k = 3 then
      match ts, kidsT' f, kidsT' t with
      | [a, b], [f1, f2], [t1, t2] => kindT f == 5 && (kindT t == 5 && (typC d a f1 t1 && typC d b f2 t2))
      | _, _, _ => false
    else if k = 4 then
      match ts with
      | [a] => kindT t == 1 && (kindT f == tagC a && typC d a f (gk (kindT f)))
      | _ => false
    else if k = 5 then
      match ts with
      | [a] => kindT f == 1 && typC d a (gk (tagC a)) t
      | _ => false
    else kindT f == g

/-- The coercion of a cast. -/
def cst : Nat → Ty → Ty → Int → Co
  | 0, _, _, _ => .mk 0 0 0 []
  | n + 1, f, t, l =>
    if kindT f = kindT t ∧ kidsT' f = [] then .mk 1 (kindT f) 0 []
    else if kindT t = 1 then .mk 4 0 0 [cst n f (gk (kindT f)) l]
    else if kindT f = 1 then .mk 5 0 l [cst n (gk (kindT t)) t l]
    else match kidsT' f, kidsT' t with
      | [f1, f2], [t1, t2] => if kindT f = 4 then .mk 2 0 0 [cst n t1 f1 (-l), cst n f2 t2 l] else .mk 3 0 0 [cst n f1 t1 l, cst n f2 t2 l]
      | _, _ => .mk 0 0 0 []

end Go.Proofs.Ytolhfcpmhhhjpaa

namespace Go.Proofs.Ytolhfcpmhhhjpaa
open Go.RowKit

theorem co_one {w : World} {k g l : Int} {t : Co} {b : Nat} {v0 v1 v2 v3 : Value} {f : List Nat} (hE : w.heap[b]? = some (Obj.cells #[v0, v1, v2, v3] 30)) (ht : t.At w (.agg #[v0, v1, v2, v3]) f) :
    (Co.mk k g l [t]).At w (.agg #[.int .i64 k, .int .i64 g, .int .i64 l, .slice (some ⟨b, 0, none⟩) 1 1]) (b :: f) := by
  refine Co.at_mk.2 ⟨_, rfl, .inr ⟨b, 0, 1, f, rfl, by simp, by simp, by simp [maxLen], ?_, rfl⟩⟩
  refine ⟨v0, v1, v2, v3, f, [], ?_, ?_, ?_, ?_, ht, by simp only [Co.AtL], by simp⟩ <;> (rw [cell_of_block hE]; rfl)

theorem co_two {w : World} {k g l : Int} {t u : Co} {b : Nat} {v0 v1 v2 v3 u0 u1 u2 u3 : Value} {f f' : List Nat} (hE : w.heap[b]? = some (Obj.cells #[v0, v1, v2, v3, u0, u1, u2, u3] 30)) (ht : t.At w (.agg #[v0, v1, v2, v3]) f) (hu : u.At w (.agg #[u0, u1, u2, u3]) f') :
    (Co.mk k g l [t, u]).At w (.agg #[.int .i64 k, .int .i64 g, .int .i64 l, .slice (some ⟨b, 0, none⟩) 2 2]) (b :: (f ++ f')) := by
  refine Co.at_mk.2 ⟨_, rfl, .inr ⟨b, 0, 2, f ++ f', rfl, by simp, by simp, by simp [maxLen], ?_, rfl⟩⟩
  refine ⟨v0, v1, v2, v3, f, f', ?_, ?_, ?_, ?_, ht, ?_, rfl⟩
  any_goals (rw [cell_of_block hE]; rfl)
  refine ⟨u0, u1, u2, u3, f', [], ?_, ?_, ?_, ?_, hu, by simp only [Co.AtL], by simp⟩ <;> (rw [cell_of_block hE]; rfl)

theorem Fresh.row {B b : Nat} {w : World} {T : TypeId} {C : Array Value} {f : List Nat} (h : Fresh B w f) (hE : w.heap[b]? = some (Obj.cells C T)) (hB : B ≤ b) (hb : ∀ x ∈ f, x < b) : Fresh B w (b :: f) :=
  ⟨List.nodup_cons.2 ⟨fun hm => by have := hb b hm; omega, h.1⟩, fun x hx => by
    rcases List.mem_cons.1 hx with rfl | hx
    · exact ⟨hB, lt_of_block hE, fun o => frozen_of_block hE⟩
    · exact h.2 x hx⟩

theorem put4_above {w : World} {M lo : Nat} (h : M < lo) (x0 x1 x2 x3 : Value) : Above lo w (put4 w M 0 x0 x1 x2 x3) :=
  ((((Above.refl lo w).setCell (p := ⟨M, 0, none⟩) h x0).setCell (p := ⟨M, 0 + 1, none⟩) h x1).setCell (p := ⟨M, 0 + 2, none⟩) h x2).setCell (p := ⟨M, 0 + 3, none⟩) h x3

theorem put4_below {w wF : World} {M : Nat} (h : Below w.heap.size w wF) (hM : w.heap.size ≤ M) (x0 x1 x2 x3 : Value) : Below w.heap.size w (put4 wF M 0 x0 x1 x2 x3) :=
  (((h.setCell (p := ⟨M, 0, none⟩) hM x0).setCell (p := ⟨M, 0 + 1, none⟩) hM x1).setCell (p := ⟨M, 0 + 2, none⟩) hM x2).setCell (p := ⟨M, 0 + 3, none⟩) hM x3

/-- A coercion in new memory, behind the stores into the result's cell. -/
theorem close4 {w wF : World} {M lo : Nat} {t : Co} {v0 v1 v2 v3 : Value} {fp : List Nat} (hat : t.At wF (.agg #[v0, v1, v2, v3]) fp) (hf : Fresh lo wF fp) (hM : w.heap.size ≤ M) (hlo : M < lo) (hbw : Below w.heap.size w wF) :
    MadeC w t (.returned (.agg #[v0, v1, v2, v3])) (put4 wF M 0 v0 v1 v2 v3) :=
  ⟨_, fp, rfl, hat.above (put4_above hlo _ _ _ _) hf.ge, (hf.above (put4_above hlo _ _ _ _) (Nat.le_refl _)).mono (by omega), put4_below hbw hM _ _ _ _⟩

theorem three3 {w wr : World} {o1 o2 o3 : Obj} (h : Below (((w.alloc o1).alloc o2).alloc o3).heap.size (((w.alloc o1).alloc o2).alloc o3) wr) :
    wr.heap[w.heap.size]? = some o1 ∧ wr.heap[w.heap.size + 1]? = some o2 ∧ wr.heap[w.heap.size + 1 + 1]? = some o3 := by
  have h1 : (w.alloc o1).heap.size = w.heap.size + 1 := by simp
  have h2 : ((w.alloc o1).alloc o2).heap.size = w.heap.size + 1 + 1 := by simp
  refine ⟨(h.block _ (by simp; omega)).trans ((Below.heap_alloc _ _ _ (by simp; omega)).trans ((Below.heap_alloc _ _ _ (by simp)).trans (alloc_new _ _))), (h.block _ (by simp)).trans ((Below.heap_alloc _ _ _ (by simp)).trans ?_), (h.block _ (by simp)).trans ?_⟩
  · rw [← h1]; exact alloc_new _ _
  · rw [← h2]; exact alloc_new _ _

theorem shp_small : ∀ {d : Nat} {t : Ty}, shp d t = true → t.cnt + 2 ≤ 2 ^ (d + 1)
  | 0, _, h => by simp [shp] at h
  | d + 1, .mk k ts, h => by
    have hp : 0 < 2 ^ d := Nat.pow_pos (by omega)
    rcases shp_cases h with ⟨rfl, _⟩ | ⟨a, b, rfl, _, ha, hb⟩
    · simp only [Ty.cnt, cntL, List.length_nil, Nat.pow_succ]
      omega
    · have h1 := shp_small ha
      have h2 := shp_small hb
      simp only [Ty.cnt, cntL, List.length_cons, List.length_nil, Nat.pow_succ] at *
      omega

theorem shp_cnt30 {d : Nat} {t : Ty} (h : shp d t = true) (hd : d ≤ 4) : t.cnt ≤ 1048576 := by
  have h1 := shp_small h
  have h2 : 2 ^ (d + 1) ≤ 2 ^ 5 := Nat.pow_le_pow_right (by omega) (by omega)
  omega

theorem shp_wf {d : Nat} {t : Ty} (h : shp d t = true) : wf t := ⟨d, h⟩

theorem shp_leaf {d : Nat} {k : Int} (h : k = 1 ∨ k = 2 ∨ k = 3) : shp (d + 1) (.mk k []) = true := by
  simp [shp, kidsOf, h]

theorem shp_gk {d : Nat} {f : Ty} (h : shp d f = true) : shp d (gk (kindT f)) = true := by
  cases d with
  | zero => simp [shp] at h
  | succ d =>
    obtain ⟨k, ts, rfl⟩ := f.shape
    rcases shp_cases h with ⟨rfl, hk⟩ | ⟨a, b, rfl, hk, ha, _⟩
    · have e : gk k = .mk k [] := by unfold gk; rw [if_neg (by omega)]
      show shp (d + 1) (gk k) = true
      rw [e]
      exact shp_leaf hk
    · cases d with
      | zero => simp [shp] at ha
      | succ d =>
        have e : gk k = .mk k [.mk 1 [], .mk 1 []] := by unfold gk; rw [if_pos hk]
        have h1 : ¬ (k = 1 ∨ k = 2 ∨ k = 3) := by omega
        have h2 : shp (d + 1) (.mk 1 []) = true := shp_leaf (.inl rfl)
        show shp (d + 1 + 1) (gk k) = true
        rw [e, shp]
        simp [kidsOf, h1, hk, h2]

theorem cons_gk {f : Ty} (h : wf f) : cons f (gk (kindT f)) = true ∧ cons (gk (kindT f)) f = true := by
  obtain ⟨k, ts, rfl⟩ := f.shape
  rcases wf_kids h with ⟨hk, rfl⟩ | ⟨hk, a, b, rfl, _, _⟩
  · have : ¬ (k = 4 ∨ k = 5) := by omega
    simp [gk, this, kindT, cons, consL]
  · obtain ⟨ka, la, rfl⟩ := a.shape
    obtain ⟨kb, lb, rfl⟩ := b.shape
    have : ¬ k = 1 := by omega
    simp [gk, hk, kindT, cons, consL, this]

theorem SlAt.none' {w : World} {s : Value} {fp : List Nat} (h : SlAt w [] s fp) : ∃ a cap, s = .slice a 0 cap := by
  rcases h with ⟨_, _, a, cap, rfl⟩ | ⟨b, o, cap, f, _, hp, _⟩
  · exact ⟨a, cap, rfl⟩
  · simp at hp

/-- The depth that is left suffices. -/
def fuelOk (n d : Nat) (f t : Ty) : Prop := 2 * d ≤ n ∨ (2 * d ≤ n + 1 ∧ kindT f = kindT t)

/-- What a cast between two types may be. -/
inductive CstK (d : Nat) : Ty → Ty → Prop
  | id (k : Int) (h : k = 1 ∨ k = 2 ∨ k = 3) : CstK d (.mk k []) (.mk k [])
  | inj (f : Ty) (h : kindT f ≠ 1) : CstK d f (.mk 1 [])
  | prj (t : Ty) (h : kindT t ≠ 1) : CstK d (.mk 1 []) t
  | two (k : Int) (f1 f2 t1 t2 : Ty) (h : k = 4 ∨ k = 5) (hf1 : shp (d - 1) f1 = true) (hf2 : shp (d - 1) f2 = true) (ht1 : shp (d - 1) t1 = true) (ht2 : shp (d - 1) t2 = true) (h1 : cons f1 t1 = true) (h2 : cons f2 t2 = true) (hd : 1 < d) : CstK d (.mk k [f1, f2]) (.mk k [t1, t2])

theorem cons_symm2 : ∀ {t u : Ty}, cons t u = true → cons u t = true := by
  intro t
  refine Ty.ind (P := fun t => ∀ {u : Ty}, cons t u = true → cons u t = true) (fun k ts ih => ?_) t
  intro u h
  obtain ⟨k', us, rfl⟩ := u.shape
  simp only [cons] at *
  by_cases h1 : k = 1 ∨ k' = 1
  · rw [if_pos h1.symm]
  · rw [if_neg h1] at h
    rw [if_neg (fun e => h1 e.symm)]
    by_cases hk : k = k'
    · subst hk
      rw [if_pos rfl] at h ⊢
      have hl : ∀ (ts us : List Ty), (∀ t ∈ ts, ∀ {u : Ty}, cons t u = true → cons u t = true) → consL ts us = true → consL us ts = true := by
        intro ts
        induction ts with
        | nil => intro us _ _; cases us <;> simp [consL]
        | cons t ts ih2 =>
          intro us hh h
          cases us with
          | nil => simp [consL]
          | cons u us =>
            simp only [consL, Bool.and_eq_true] at h ⊢
            exact ⟨hh t (by simp) h.1, ih2 us (fun t ht => hh t (by simp [ht])) h.2⟩
      exact hl ts us ih h
    · rw [if_neg hk] at h
      cases h

theorem cstK {d : Nat} {f t : Ty} (hf : shp d f = true) (ht : shp d t = true) (hc : cons f t = true) : CstK d f t := by
  cases d with
  | zero => simp [shp] at hf
  | succ d =>
    obtain ⟨kf, fs, rfl⟩ := f.shape
    obtain ⟨kt, ts, rfl⟩ := t.shape
    by_cases h1 : kt = 1
    · subst h1
      have e : ts = [] := by
        rcases shp_cases ht with ⟨h, _⟩ | ⟨a, b, _, h, _⟩
        · exact h
        · omega
      subst e
      by_cases h2 : kf = 1
      · subst h2
        have e : fs = [] := by
          rcases shp_cases hf with ⟨h, _⟩ | ⟨a, b, _, h, _⟩
          · exact h
          · omega
        subst e
        exact .id 1 (by omega)
      · exact .inj _ h2
    · by_cases h2 : kf = 1
      · subst h2
        have e : fs = [] := by
          rcases shp_cases hf with ⟨h, _⟩ | ⟨a, b, _, h, _⟩
          · exact h
          · omega
        subst e
        exact .prj _ h1
      · simp only [cons] at hc
        rw [if_neg (by omega)] at hc
        by_cases hk : kf = kt
        · subst hk
          rw [if_pos rfl] at hc
          rcases shp_cases hf with ⟨rfl, hl⟩ | ⟨a, b, rfl, hl, ha, hb⟩
          · rcases shp_cases ht with ⟨rfl, _⟩ | ⟨_, _, _, hl', _⟩
            · exact .id _ hl
            · omega
          · rcases shp_cases ht with ⟨_, hl'⟩ | ⟨a', b', rfl, _, ha', hb'⟩
            · omega
            · simp only [consL, Bool.and_true, Bool.and_eq_true] at hc
              refine .two _ a b a' b' hl (by simpa using ha) (by simpa using hb) (by simpa using ha') (by simpa using hb') hc.1 hc.2 ?_
              cases d with
              | zero => simp [shp] at ha
              | succ d => omega
        · rw [if_neg hk] at hc
          cases hc

theorem cst_id {n : Nat} {k l : Int} : cst (n + 1) (.mk k []) (.mk k []) l = .mk 1 k 0 [] := by simp [cst, kindT, kidsT']
theorem cst_inj {n : Nat} {f : Ty} {l : Int} (h : kindT f ≠ 1) : cst (n + 1) f (.mk 1 []) l = .mk 4 0 0 [cst n f (gk (kindT f)) l] := by
  obtain ⟨k, ts, rfl⟩ := f.shape
  have h' : ¬ k = 1 := h
  simp [cst, kindT, h']
theorem cst_prj {n : Nat} {t : Ty} {l : Int} (h : kindT t ≠ 1) : cst (n + 1) (.mk 1 []) t l = .mk 5 0 l [cst n (gk (kindT t)) t l] := by
  obtain ⟨k, ts, rfl⟩ := t.shape
  have h' : ¬ k = 1 := h
  have h2 : ¬ 1 = k := fun e => h' e.symm
  simp [cst, kindT, h', h2]
theorem cst_two {n : Nat} {k l : Int} {f1 f2 t1 t2 : Ty} (h : k = 4 ∨ k = 5) : cst (n + 1) (.mk k [f1, f2]) (.mk k [t1, t2]) l = if k = 4 then .mk 2 0 0 [cst n t1 f1 (-l), cst n f2 t2 l] else .mk 3 0 0 [cst n f1 t1 l, cst n f2 t2 l] := by
  rcases h with rfl | rfl <;> simp [cst, kindT, kidsT']

theorem shp_up : ∀ {d e : Nat} {t : Ty}, d ≤ e → shp d t = true → shp e t = true
  | 0, _, _, _, h => by simp [shp] at h
  | d + 1, 0, _, hde, _ => by omega
  | d + 1, e + 1, .mk k ts, hde, h => by
    simp only [shp, Bool.and_eq_true, List.all_eq_true] at h ⊢
    exact ⟨h.1, fun t ht => shp_up (by omega) (h.2 t ht)⟩

theorem shp_gk4 {k : Int} (h : 1 ≤ k ∧ k ≤ 5) : shp 4 (gk k) = true := by
  have : k = 1 ∨ k = 2 ∨ k = 3 ∨ k = 4 ∨ k = 5 := by omega
  rcases this with rfl | rfl | rfl | rfl | rfl <;> decide
end Go.Proofs.Ytolhfcpmhhhjpaa

namespace Go.Proofs.Ytolhfcpmhhhjpaa
open Go.RowKit

/-- A chain of injections ends. -/
def tagWf : Nat → Co → Bool
  | 0, _ => false
  | d + 1, .mk k _ _ ts => if k = 4 then (match ts with | [t] => tagWf d t | _ => false) else true

theorem tagWf_shp : ∀ {d : Nat} {t : Co}, shpK d t = true → tagWf d t = true
  | 0, _, h => by simp [shpK] at h
  | d + 1, .mk k g l ts, h => by
    obtain ⟨hn, hs⟩ := shpK_node h
    by_cases h4 : k = 4
    · rcases nodeC_cases hn with ⟨h, _⟩ | ⟨h, _⟩ | ⟨h, _⟩ | ⟨_, _, _, a, rfl, _⟩ | ⟨h, _⟩ | ⟨h, _⟩
      any_goals omega
      simp only [tagWf, if_pos h4]
      exact tagWf_shp (hs a (by simp))
    · simp [tagWf, h4]

end Go.Proofs.Ytolhfcpmhhhjpaa

namespace Go.Proofs.Ytolhfcpmhhhjpaa
open Go.RowKit

def TgiC (d : Nat) : Prop := ∀ (t : Co) (v : Value) (fp : List Nat) (w : World), tagWf d t = true → t.At w v fp →
  Calls Try.prog 88 #[v] w fun e w' => e = .returned (.int .i64 (tagC t)) ∧ Below w.heap.size w w'

set_option maxHeartbeats 1000000 in
theorem tagi_succ (d : Nat) (ih : TgiC d) : TgiC (d + 1) := by
  intro t v fp w hw hat
  have HIH := hid ih
  clear ih
  obtain ⟨k, g, l, ts, rfl⟩ := t.shape
  obtain ⟨s, rfl, hs⟩ := Co.at_mk.1 hat
  by_cases h4 : k = 4
  · subst h4
    simp only [tagWf, if_true] at hw
    match ts, hw, hs with
    | [x], hw, hs =>
    obtain ⟨b, o, cap, k1, g1, l1, n1, a1, c1, f1, rfl, hblt, d0, d1, d2, d3, hx, _, hc⟩ := hs.one
    have hb0 : Below w.heap.size w (w.alloc (Obj.cells #[.int .i64 4, .int .i64 g, .int .i64 l, .slice (some ⟨b, o, none⟩) 1 cap] 30)) := (Below.refl _ _).alloc (Nat.le_refl _) _
    have HT := hid (show tagC (.mk 4 g l [x]) = tagC x by simp [tagC, tagL])
    have HX := hid (hx.below hb0)
    have HW := hid hw
    have e0 := cell_keep d0 hb0
    have e1 := cell_keep d1 hb0
    have e2 := cell_keep d2 hb0
    have e3 := cell_keep d3 hb0
    clear hat hs hx hw
    go_enter Try.func88, Try.ntmps88
    go_wp2_with fail
    refine (HIH.out x _ _ _ HW.out HX.out).mono ?_
    rintro e w1 ⟨rfl, hb1⟩
    generalize hr : tagC x = r
    have HR := hid hr
    clear hr
    go_wp2_with fail
    go_ret
    exact ⟨ret_i (by rw [HT.out, HR.out]), below_trans hb0 hb1⟩
  obtain ⟨a, cap, rfl⟩ := hs.shape
  generalize hn : ts.length = n at *
  have e4 : (k == 4) = false := by simpa using h4
  have hb0 : Below w.heap.size w (w.alloc (Obj.cells #[.int .i64 k, .int .i64 g, .int .i64 l, .slice a n cap] 30)) := (Below.refl _ _).alloc (Nat.le_refl _) _
  clear hat hs hn hw
  by_cases h2 : k = 2
  · subst h2
    have HT := hid (show tagC (.mk 2 g l ts) = 4 by simp [tagC])
    go_enter Try.func88, Try.ntmps88
    go_wp2_with fail
    go_ret
    exact ⟨ret_i HT.out.symm, hb0⟩
  have e2 : (k == 2) = false := by simpa using h2
  by_cases h3 : k = 3
  · subst h3
    have HT := hid (show tagC (.mk 3 g l ts) = 5 by simp [tagC])
    go_enter Try.func88, Try.ntmps88
    go_wp2_with fail
    go_ret
    exact ⟨ret_i HT.out.symm, hb0⟩
  have e3 : (k == 3) = false := by simpa using h3
  have HT := hid (show tagC (.mk k g l ts) = g by simp [tagC, h2, h3, h4])
  go_enter Try.func88, Try.ntmps88
  go_wp2_with fail
  go_ret
  exact ⟨ret_i HT.out.symm, hb0⟩

theorem tagi_any : ∀ d, TgiC d
  | 0 => fun t v fp w h => by simp [tagWf] at h
  | d + 1 => tagi_succ d (tagi_any d)
end Go.Proofs.Ytolhfcpmhhhjpaa

namespace Go.Proofs.Ytolhfcpmhhhjpaa
open Go.RowKit

theorem blk {w w' : World} {M : Nat} {o : Obj} (h : w.heap[M]? = some o) (hb : Below w.heap.size w w') : w'.heap[M]? = some o := (hb.block _ (lt_of_block h)).trans h

/-- From w to w' only new blocks, block M and v's own block have been written. -/
def Lr (M : Nat) (w w' : World) (v v' : Value) : Prop := (w'.os = w.os ∧ w'.tape = w.tape ∧ w'.output = w.output ∧ w.heap.size ≤ w'.heap.size) ∧ (∀ k, k < w.heap.size → k ≠ M → some k ≠ v.ownBlock → w'.heap[k]? = w.heap[k]?) ∧ (v'.ownBlock = v.ownBlock ∨ ∃ b, v'.ownBlock = some b ∧ w.heap.size ≤ b)

theorem Lr.of_below {M : Nat} {w w' : World} (h : Below w.heap.size w w') (v : Value) : Lr M w w' v v := ⟨⟨h.os, h.tape, h.output, h.size⟩, fun k hk _ _ => h.block k hk, .inl rfl⟩

theorem Lr.trans {M : Nat} {a b c : World} {x y z : Value} (h : Lr M a b x y) (k : Lr M b c y z) : Lr M a c x z := by
  obtain ⟨⟨h1, h2, h3, h4⟩, h5, h6⟩ := h
  obtain ⟨⟨k1, k2, k3, k4⟩, k5, k6⟩ := k
  refine ⟨⟨k1.trans h1, k2.trans h2, k3.trans h3, Nat.le_trans h4 k4⟩, fun i hi hM hn => ?_, ?_⟩
  · rw [k5 i (Nat.lt_of_lt_of_le hi h4) hM ?_, h5 i hi hM hn]
    rcases h6 with h6 | ⟨b, h6, hb⟩
    · rw [h6]; exact hn
    · rw [h6]
      intro e
      have := Option.some.inj e
      omega
  · rcases k6 with k6 | ⟨b, k6, hb⟩
    · rcases h6 with h6 | ⟨b, h6, hb⟩
      · exact .inl (k6.trans h6)
      · exact .inr ⟨b, k6.trans h6, hb⟩
    · exact .inr ⟨b, k6, Nat.le_trans h4 hb⟩

theorem Lr.heap {M : Nat} {w w' : World} {v v' : Value} (h : Lr M w w' v v') {k : Nat} {o : Obj} (hk : w.heap[k]? = some o) (hM : k ≠ M) (hn : some k ≠ v.ownBlock) : w'.heap[k]? = some o := (h.2.1 k (lt_of_block hk) hM hn).trans hk

theorem Lr.below {M B : Nat} {w w' : World} {v v' : Value} (h : Lr M w w' v v') (hMB : M < B) (hB : B ≤ w.heap.size) (ho : ∀ b, v.ownBlock = some b → B ≤ b) : Below M w w' :=
  ⟨h.1.1, h.1.2.1, h.1.2.2.1, h.1.2.2.2, fun k hk => h.2.1 k (by omega) (by omega) (fun e => by have := ho k e.symm; omega)⟩

end Go.Proofs.Ytolhfcpmhhhjpaa

namespace Go.Proofs.Ytolhfcpmhhhjpaa
open Go.RowKit

section
variable {α : Type} (step : α → Co → α)
mutual
/-- What the visits of a coercion's nodes make of a state. -/
def ccN : α → Co → α
  | a, .mk k g l ts => ccL (step a (.mk k g l ts)) ts
def ccL : α → List Co → α
  | a, [] => a
  | a, t :: ts => ccL (ccN a t) ts
end

theorem ccL_take : ∀ (ts : List Co) (a : α) (j : Nat) (h : j < ts.length), ccL step a (ts.take (j + 1)) = ccN step (ccL step a (ts.take j)) ts[j]
  | t :: ts, a, 0, _ => by simp [ccL]
  | t :: ts, a, j + 1, h => by
    simp only [List.take_succ_cons, ccL, List.getElem_cons_succ]
    exact ccL_take ts _ j (by simpa using h)
end

section
variable {α : Type}
mutual
theorem ccN_len (step : α → Co → α) (len : α → Nat) (hlen : ∀ a t, len (step a t) ≤ len a + 2) : ∀ (t : Co) (a : α), len (ccN step a t) ≤ len a + 2 * (t.cnt + 1)
  | .mk k g l ts, a => by
    have h := ccL_len step len hlen ts (step a (.mk k g l ts))
    have h2 := hlen a (.mk k g l ts)
    simp only [ccN, Co.cnt]
    omega
theorem ccL_len (step : α → Co → α) (len : α → Nat) (hlen : ∀ a t, len (step a t) ≤ len a + 2) : ∀ (ts : List Co) (a : α), len (ccL step a ts) ≤ len a + 2 * (ts.length + ccntL ts)
  | [], a => by simp [ccL, ccntL]
  | t :: ts, a => by
    have h1 := ccN_len step len hlen t a
    have h2 := ccL_len step len hlen ts (ccN step a t)
    simp only [ccL, List.length_cons, ccntL]
    omega
end

theorem ccL_take_len (step : α → Co → α) (len : α → Nat) (hlen : ∀ a t, len (step a t) ≤ len a + 2) (ts : List Co) (a : α) (j : Nat) (h : j < ts.length) : len (ccL step a (ts.take j)) + 2 * (ts[j].cnt + 1) ≤ len a + 2 * (ts.length + ccntL ts) := by
  induction ts generalizing a j with
  | nil => simp at h
  | cons t ts ih =>
    have h1 := ccN_len step len hlen t a
    cases j with
    | zero => simp only [List.take_zero, ccL, List.getElem_cons_zero, List.length_cons, ccntL]; omega
    | succ j =>
      have := ih (ccN step a t) j (by simpa using h)
      simp only [List.take_succ_cons, ccL, List.getElem_cons_succ, List.length_cons, ccntL]
      omega
end

/-- What a visit of a node says. -/
def CVis (fc : FuncId) (bs : Array Value) (M B : Nat) {α : Type} (St : α → Value → World → Prop) (len : α → Nat) (step : α → Co → α) : Prop :=
  ∀ (a : α) (v : Value) k g l ts a3 c3 fp w, St a v w → Co.At w (.mk k g l ts) (.agg #[.int .i64 k, .int .i64 g, .int .i64 l, .slice a3 ts.length c3]) fp → (∀ x ∈ fp, x < M) → B ≤ w.heap.size → len a ≤ 4194300 →
    Calls Try.prog fc (#[(.agg #[.int .i64 k, .int .i64 g, .int .i64 l, .slice a3 ts.length c3])] ++ bs) w (fun e w' => (∃ r, e = .returned r) ∧ ∃ v', St (step a (.mk k g l ts)) v' w' ∧ Lr M w w' v v')

def CEcC (fc : FuncId) (bs : Array Value) (M B : Nat) {α : Type} (St : α → Value → World → Prop) (len : α → Nat) (step : α → Co → α) (t : Co) : Prop :=
  ∀ (a : α) (v : Value) (tv : Value) (fp : List Nat) (w : World), St a v w → t.At w tv fp → (∀ x ∈ fp, x < M) → B ≤ w.heap.size → t.cnt ≤ 1048576 → len a + 2 * (t.cnt + 1) ≤ 4194300 →
    Calls Try.prog 46 #[tv, .func (.func fc) #[] bs] w (fun e w' => (∃ r, e = .returned r) ∧ ∃ v', St (ccN step a t) v' w' ∧ Lr M w w' v v')

set_option linter.unusedSimpArgs false in
set_option maxRecDepth 100000 in
set_option maxHeartbeats 4000000 in
theorem eachCo_of (fc : FuncId) (bs : Array Value) (M B : Nat) {α : Type} (St : α → Value → World → Prop) (len : α → Nat) (step : α → Co → α) (hfc : CallOkT fc) (hMB : M < B) (hlen : ∀ a t, len (step a t) ≤ len a + 2)
    (hSt : ∀ a v w w', St a v w → Below w.heap.size w w' → St a v w') (hown : ∀ a v w, St a v w → ∀ b, v.ownBlock = some b → B ≤ b ∧ b < w.heap.size) (hV : CVis fc bs M B St len step)
    (k g l : Int) (ts : List Co) (ih : ∀ t ∈ ts, CEcC fc bs M B St len step t) : CEcC fc bs M B St len step (.mk k g l ts) := by
  intro a v tv fp w hL hat hlt hBw hsz hln
  have HIH := hid ih
  have HV := hid hV
  have HST := hid hSt
  clear ih hV hSt
  have hat0 := hat
  obtain ⟨s, rfl, hs⟩ := Co.at_mk.1 hat
  have hb00 : ∀ o : Obj, Below w.heap.size w (w.alloc o) := fun o => (Below.refl _ _).alloc (Nat.le_refl _) _
  obtain ⟨a3, c3, hss, hc, hm, hget⟩ := hs.open
  subst hss
  have hb0 : Below w.heap.size w (w.alloc (Obj.cells #[.int .i64 k, .int .i64 g, .int .i64 l, .slice a3 ts.length c3] 30)) := hb00 _
  have hblk : ∀ b o, a3 = some ⟨b, o, none⟩ → 0 < ts.length → b ∈ fp := fun b o e hp => by
    rcases hs with ⟨h0, _⟩ | ⟨b', o', cap', f, e', _, _, _, _, rfl⟩
    · rw [h0] at hp; simp at hp
    · rw [e] at e'
      cases e'
      simp
  have HBK := hid hblk
  have HG := hid hget
  have HS3 := hid hlt
  have HSZ := hid (show ts.length + ccntL ts ≤ 1048576 by simp only [Co.cnt] at hsz; omega)
  have HOWN := hid (hown a v w hL)
  have HMB := hid hMB
  have hMo : some w.heap.size ≠ v.ownBlock := fun e => by have := (HOWN.out _ e.symm).2; omega
  have HMO := hid hMo
  have HLE := hid hlen
  have HFC := hid hfc
  have HEC := hid (show ccN step a (.mk k g l ts) = ccL step (step a (.mk k g l ts)) ts by rw [ccN])
  have HLN := hid (show len (step a (.mk k g l ts)) + 2 * (ts.length + ccntL ts) ≤ 4194300 by
    have := hlen a (.mk k g l ts)
    simp only [Co.cnt] at hln
    omega)
  have hla : len a ≤ 4194300 := by omega
  obtain ⟨x0, x1, x2, x3⟩ := box4 (Below.refl ((w.alloc (Obj.cells #[.int .i64 k, .int .i64 g, .int .i64 l, .slice a3 ts.length c3] 30))).heap.size (w.alloc (Obj.cells #[.int .i64 k, .int .i64 g, .int .i64 l, .slice a3 ts.length c3] 30)))
  have hvis := HV.out a v k g l ts a3 c3 _ (w.alloc (Obj.cells #[.int .i64 k, .int .i64 g, .int .i64 l, .slice a3 ts.length c3] 30)) (HST.out _ _ _ _ hL hb0) (hat0.below hb0) hlt (Nat.le_trans hBw hb0.size) hla
  have HVIS := hid hvis
  generalize step a (.mk k g l ts) = b0 at *
  rw [HEC.out]
  have hfc := HFC.out
  unfold CallOkT at hfc
  clear hvis hla hL hat0 hlt HEC HV hget hsz hblk hs hMo hat hln hlen hMB hown hb00
  go_enter Try.func46, Try.ntmps46
  go_wp2_with fail
  refine HVIS.out.mono ?_
  rintro e w2 ⟨⟨r2, rfl⟩, v2, hL2, hr2⟩
  have HL2 := hid hL2
  have HR2 := hid hr2
  have hbx := hr2.heap (k := w.heap.size) (alloc_new _ _) (by have := HMB.out; omega) HMO.out
  clear hL2 hr2 x0 x1 x2 x3 hfc
  have x0 : w2.cell? ⟨w.heap.size, 0, none⟩ = some (.int .i64 k) := by rw [cell_of_block hbx]; rfl
  have x1 : w2.cell? ⟨w.heap.size, 1, none⟩ = some (.int .i64 g) := by rw [cell_of_block hbx]; rfl
  have x2 : w2.cell? ⟨w.heap.size, 2, none⟩ = some (.int .i64 l) := by rw [cell_of_block hbx]; rfl
  have x3 : w2.cell? ⟨w.heap.size, 3, none⟩ = some (.slice a3 ts.length c3) := by rw [cell_of_block hbx]; rfl
  clear hbx
  go_wp2_with fail
  go_loopw [12] (fun i wr => ∃ (j : Nat) (v' : Value), j ≤ ts.length ∧ i = .int .i64 j ∧ St (ccL step b0 (ts.take j)) v' wr ∧ Lr M (w.alloc (Obj.cells #[.int .i64 k, .int .i64 g, .int .i64 l, .slice a3 ts.length c3] 30)) wr v v') (fun i _ => ts.length - (intOf i).toNat)
  case atStart => exact ⟨0, _, Nat.zero_le _, rfl, by simpa [ccL] using HL2.out, HR2.out⟩
  case round =>
    obtain ⟨j, v', hj, rfl, hL4, hr4⟩ := hrel
    have hbl := hr4.below HMB.out (Nat.le_trans hBw hb0.size) (fun b hb => (HOWN.out b hb).1)
    have hBr : B ≤ wr.heap.size := Nat.le_trans (Nat.le_trans hBw hb0.size) hr4.1.2.2.2
    have HL4 := hid hL4
    have HR4 := hid hr4
    have HBL := hid hbl
    clear hL4 hr4 hbl
    by_cases hlk : j < ts.length
    · obtain ⟨b, o, q0, q1, q2, q3, q4, q5, g1, hab, hblt, e0, e1, e2, e3, hat, hf⟩ := HG.out j hlk
      have hbM : b < M := HS3.out b (HBK.out b o hab (by omega))
      subst hab
      have hgM : ∀ x ∈ g1, x < M := fun x hx => HS3.out x (hf x hx)
      have hat' : Co.At wr ts[j] _ g1 := (hat.below hb0).congr fun x hx o' => HBL.out.cell (p := ⟨x, o', none⟩) (hgM x hx)
      replace e0 := (HBL.out.cell (p := ⟨b, o + j * 4, none⟩) hbM).trans (cell_keep e0 hb0)
      replace e1 := (HBL.out.cell (p := ⟨b, o + j * 4 + 1, none⟩) hbM).trans (cell_keep e1 hb0)
      replace e2 := (HBL.out.cell (p := ⟨b, o + j * 4 + 2, none⟩) hbM).trans (cell_keep e2 hb0)
      replace e3 := (HBL.out.cell (p := ⟨b, o + j * 4 + 3, none⟩) hbM).trans (cell_keep e3 hb0)
      have HTK := hid (ccL_take step ts b0 j hlk)
      have hl2 : len (ccL step b0 (ts.take j)) + 2 * (ts[j].cnt + 1) ≤ 4194300 := Nat.le_trans (ccL_take_len step len HLE.out ts b0 j hlk) HLN.out
      have hszj : ts[j].cnt ≤ 1048576 := by have := HSZ.out; have := ccnt_mem (List.getElem_mem hlk); omega
      have hkb : ∀ oo : Obj, Below wr.heap.size wr (wr.alloc oo) := fun _ => (Below.refl _ _).alloc (Nat.le_refl _) _
      have HGM := hid hgM
      have HL2' := hid hl2
      clear hat hf hgM hl2
      go_wp2_with fail
      refine (HIH.out _ (List.getElem_mem hlk) _ v' _ g1 _ (HST.out _ _ _ _ HL4.out (hkb _)) (hat'.below (hkb _)) HGM.out (Nat.le_trans hBr (hkb _).size) hszj HL2'.out).mono ?_
      rintro e w4 ⟨⟨r4, rfl⟩, v5, hL5, hr5⟩
      have HL5 := hid hL5
      have HR5 := hid ((HR4.out.trans (Lr.of_below (hkb _) v')).trans hr5)
      clear hL5 hr5 e0 e1 e2 e3 hat'
      go_wp2_with fail
      go_roundw
      case rel => exact ⟨j + 1, v5, by omega, by go_num, by rw [HTK.out]; exact HL5.out, HR5.out⟩
      case measure => simp [intOf]; omega
    · have hz : ts.take j = ts := List.take_of_length_le (by omega)
      have HZ := hid hz
      clear hz
      go_wp2_with fail
      first | go_ret | go_end0
      refine ⟨⟨_, rfl⟩, v', ?_, (Lr.of_below hb0 v).trans HR4.out⟩
      have := HL4.out
      rwa [HZ.out] at this

theorem eachCo_any (fc : FuncId) (bs : Array Value) (M B : Nat) {α : Type} (St : α → Value → World → Prop) (len : α → Nat) (step : α → Co → α) (hfc : CallOkT fc) (hMB : M < B) (hlen : ∀ a t, len (step a t) ≤ len a + 2)
    (hSt : ∀ a v w w', St a v w → Below w.heap.size w w' → St a v w') (hown : ∀ a v w, St a v w → ∀ b, v.ownBlock = some b → B ≤ b ∧ b < w.heap.size) (hV : CVis fc bs M B St len step) :
    ∀ t : Co, CEcC fc bs M B St len step t := Co.ind (eachCo_of fc bs M B St len step hfc hMB hlen hSt hown hV)
end Go.Proofs.Ytolhfcpmhhhjpaa

namespace Go.Proofs.Ytolhfcpmhhhjpaa
open Go.RowKit

/-- A number among a list's, ahead of the first greater one. -/
def insB (n : Int) : List Int → List Int
  | [] => [n]
  | x :: xs => if n < x then n :: x :: xs else x :: insB n xs

/-- A list with a number, if it is not there. -/
def srtI (l : List Int) (n : Int) : List Int := if n ∈ l then l else insB n l

theorem insB_mem (n x : Int) : ∀ l : List Int, x ∈ insB n l ↔ x = n ∨ x ∈ l
  | [] => by simp [insB]
  | y :: l => by
    unfold insB
    split
    · simp
    · rw [List.mem_cons, insB_mem n x l, List.mem_cons]
      constructor
      · rintro (h | h | h) <;> simp [h]
      · rintro (h | h | h) <;> simp [h]

theorem srtI_mem (l : List Int) (n x : Int) : x ∈ srtI l n ↔ x = n ∨ x ∈ l := by
  unfold srtI
  split
  · rename_i h
    constructor
    · exact fun hx => .inr hx
    · rintro (rfl | hx)
      · exact h
      · exact hx
  · exact insB_mem n x l

theorem insB_lt (n : Int) : ∀ l : List Int, l.Pairwise (· < ·) → n ∉ l → (insB n l).Pairwise (· < ·)
  | [], _, _ => by simp [insB]
  | y :: l, h, hn => by
    rw [List.pairwise_cons] at h
    simp only [List.mem_cons, not_or] at hn
    unfold insB
    split
    · rename_i hy
      refine List.pairwise_cons.2 ⟨fun z hz => ?_, List.pairwise_cons.2 h⟩
      rcases List.mem_cons.1 hz with rfl | hz
      · exact hy
      · have := h.1 z hz
        omega
    · rename_i hy
      refine List.pairwise_cons.2 ⟨fun z hz => ?_, insB_lt n l h.2 hn.2⟩
      rcases (insB_mem n z l).1 hz with rfl | hz
      · omega
      · exact h.1 z hz

theorem srtI_lt (l : List Int) (n : Int) (h : l.Pairwise (· < ·)) : (srtI l n).Pairwise (· < ·) := by
  unfold srtI
  split
  · exact h
  · exact insB_lt n l h (by assumption)

theorem eq_of_lt_mem : ∀ a b : List Int, a.Pairwise (· < ·) → b.Pairwise (· < ·) → (∀ x, x ∈ a ↔ x ∈ b) → a = b
  | [], [], _, _, _ => rfl
  | [], y :: b, _, _, h => by have := (h y).2 (by simp); simp at this
  | x :: a, [], _, _, h => by have := (h x).1 (by simp); simp at this
  | x :: a, y :: b, ha, hb, h => by
    rw [List.pairwise_cons] at ha hb
    have hxy : x = y := by
      have h1 := (h x).1 (by simp)
      have h2 := (h y).2 (by simp)
      rcases List.mem_cons.1 h1 with e | h1
      · exact e
      · rcases List.mem_cons.1 h2 with e | h2
        · exact e.symm
        · have := ha.1 y h2
          have := hb.1 x h1
          omega
    subst hxy
    rw [eq_of_lt_mem a b ha.2 hb.2 fun z => ?_]
    constructor
    · intro hz
      rcases List.mem_cons.1 ((h z).1 (by simp [hz])) with e | e
      · have := ha.1 z hz
        omega
      · exact e
    · intro hz
      rcases List.mem_cons.1 ((h z).2 (by simp [hz])) with e | e
      · have := hb.1 z hz
        omega
      · exact e

theorem compact_lt (zs : List Int) (h : zs.Pairwise (· ≤ ·)) : (Lib.compact zs).Pairwise (· < ·) := by
  unfold Lib.compact Lib.compactUpTo
  rw [List.pairwise_map]
  have hr : (List.range zs.length).Pairwise (fun i j => i < j) := List.pairwise_lt_range
  refine List.Pairwise.imp_of_mem ?_ (hr.filter (Lib.keeps zs.toArray))
  intro i j hi hj hij
  simp only [List.mem_filter, List.mem_range] at hi hj
  have hk : zs.toArray[j]! ≠ zs.toArray[j - 1]! := by
    have := hj.2
    simp only [Lib.keeps, decide_eq_true_eq] at this
    rcases this with h0 | h0
    · omega
    · exact h0
  rw [List.pairwise_iff_getElem] at h
  have e : ∀ i, (hi : i < zs.length) → zs.toArray[i]! = zs[i] := fun i hi => by simp [hi]
  rw [e j hj.1, e (j - 1) (by omega)] at hk
  rw [e i hi.1, e j hj.1]
  have h1 := h (j - 1) j (by omega) hj.1 (by omega)
  have h2 : zs[i] ≤ zs[j - 1] := by
    by_cases hh : i = j - 1
    · subst hh; exact Int.le_refl _
    · exact h i (j - 1) hi.1 (by omega) (by omega)
  omega

theorem compact_mem (zs : List Int) (x : Int) : x ∈ Lib.compact zs ↔ x ∈ zs := by
  unfold Lib.compact Lib.compactUpTo
  have e : ∀ i, (hi : i < zs.length) → zs.toArray[i]! = zs[i] := fun i hi => by simp [hi]
  constructor
  · intro h
    obtain ⟨i, hi, rfl⟩ := List.mem_map.1 h
    simp only [List.mem_filter, List.mem_range] at hi
    rw [e i hi.1]
    exact List.getElem_mem _
  · intro h
    obtain ⟨i, hi, rfl⟩ := List.mem_iff_getElem.1 h
    clear h
    induction i with
    | zero => exact List.mem_map.2 ⟨0, by simp [hi, Lib.keeps], e 0 hi⟩
    | succ i ih =>
      by_cases hk : Lib.keeps zs.toArray (i + 1) = true
      · exact List.mem_map.2 ⟨i + 1, by simp [hi, hk], e _ hi⟩
      · have : zs.toArray[i + 1]! = zs.toArray[i]! := by simpa [Lib.keeps] using hk
        rw [e _ hi, e i (by omega)] at this
        rw [this]
        exact ih (by omega)

theorem foldl_srt (zs : List Int) : ∀ l : List Int, l.Pairwise (· < ·) → (zs.foldl srtI l).Pairwise (· < ·) ∧ ∀ x, x ∈ zs.foldl srtI l ↔ x ∈ zs ∨ x ∈ l := by
  induction zs with
  | nil => exact fun l h => ⟨h, fun x => by simp⟩
  | cons z zs ih =>
    intro l h
    obtain ⟨h1, h2⟩ := ih (srtI l z) (srtI_lt l z h)
    refine ⟨h1, fun x => ?_⟩
    rw [List.foldl_cons, h2 x, srtI_mem, List.mem_cons]
    constructor
    · rintro (h | h | h) <;> simp [h]
    · rintro ((h | h) | h) <;> simp [h]

/-- Sorting and taking one of each is putting each in its place. -/
theorem compact_sort (zs : List Int) : Lib.compact (zs.mergeSort fun x y => decide (x ≤ y)) = zs.foldl srtI [] := by
  have hs : (zs.mergeSort fun x y => decide (x ≤ y)).Pairwise (· ≤ ·) := by
    have := List.pairwise_mergeSort (le := fun x y : Int => decide (x ≤ y)) (fun a b c h1 h2 => by simp at *; omega) (fun a b => by simp; omega) zs
    exact this.imp fun h => by simpa using h
  obtain ⟨h1, h2⟩ := foldl_srt zs [] List.Pairwise.nil
  refine eq_of_lt_mem _ _ (compact_lt _ hs) h1 fun x => ?_
  rw [compact_mem, h2 x, List.mem_mergeSort]
  simp

theorem srtI_len (l : List Int) (n : Int) : (srtI l n).length ≤ l.length + 1 := by
  unfold srtI
  split
  · omega
  · have : ∀ l : List Int, (insB n l).length = l.length + 1 := fun l => by
      induction l with
      | nil => rfl
      | cons y l ih => unfold insB; split <;> simp [ih]
    rw [this]
    exact Nat.le_refl _

/-- One visit of a node: its label at the end; its label in its place. -/
def lcStep (a : List Int) : Co → List Int
  | .mk k _ l _ => if k = 5 ∨ k = 6 then a ++ [l] else a
def scStep (a : List Int) : Co → List Int
  | .mk _ _ l _ => if l = 0 then a else srtI a l

theorem lcStep_len : ∀ (a : List Int) (t : Co), (lcStep a t).length ≤ a.length + 2
  | a, .mk k _ l _ => by simp only [lcStep]; split <;> simp
theorem scStep_len : ∀ (a : List Int) (t : Co), (scStep a t).length ≤ a.length + 2
  | a, .mk _ _ l _ => by have := srtI_len a l; simp only [scStep]; split <;> omega

theorem scStep_fold {k g l : Int} {ts : List Co} (zs : List Int) (h : nodeC k g l ts = true) : scStep (zs.foldl srtI []) (.mk k g l ts) = (lcStep zs (.mk k g l ts)).foldl srtI [] := by
  rcases nodeC_cases h with ⟨rfl, _, rfl, _⟩ | ⟨rfl, _, rfl, _⟩ | ⟨rfl, _, rfl, _⟩ | ⟨rfl, _, rfl, _⟩ | ⟨rfl, _, hl, _⟩ | ⟨rfl, _, hl, _⟩
  · simp [scStep, lcStep]
  · simp [scStep, lcStep]
  · simp [scStep, lcStep]
  · simp [scStep, lcStep]
  · have : ¬ l = 0 := fun e => by subst e; simp [isLb] at hl
    simp [scStep, lcStep, this]
  · have : ¬ l = 0 := fun e => by subst e; simp [isLb] at hl
    simp [scStep, lcStep, this]

theorem ccN_srt : ∀ (d : Nat) (t : Co) (zs : List Int), shpK d t = true → ccN scStep (zs.foldl srtI []) t = (ccN lcStep zs t).foldl srtI []
  | 0, _, _, h => by simp [shpK] at h
  | d + 1, .mk k g l ts, zs, h => by
    obtain ⟨hn, hs⟩ := shpK_node h
    have hl : ∀ (ts : List Co) (_ : ∀ t ∈ ts, shpK d t = true) (zs : List Int), ccL scStep (zs.foldl srtI []) ts = (ccL lcStep zs ts).foldl srtI [] := by
      intro ts
      induction ts with
      | nil => intro _ zs; simp only [ccL]
      | cons t ts ih =>
        intro hts zs
        simp only [ccL]
        rw [ccN_srt d t zs (hts t (by simp)), ih (fun t ht => hts t (by simp [ht]))]
    simp only [ccN]
    rw [scStep_fold zs hn, hl ts hs]

/-- The document's CoercionLabels. -/
def lcLst (t : Co) : List Int := if vldK t then ccN scStep [] t else []

theorem lcLst_len (t : Co) : (lcLst t).length ≤ 2 * (t.cnt + 1) := by
  have := ccN_len scStep List.length scStep_len t []
  unfold lcLst
  split
  · simpa using this
  · simp

theorem lcLst_eq (t : Co) (h : vldK t = true) : Lib.compact ((ccN lcStep [] t).mergeSort fun x y => decide (x ≤ y)) = ccN scStep [] t := by
  rw [compact_sort, ← ccN_srt 9 t [] h]
  rfl
end Go.Proofs.Ytolhfcpmhhhjpaa

namespace Go.Proofs.Ytolhfcpmhhhjpaa
open Go.RowKit

theorem isLb_rng {l : Int} (h : isLb l = true) : -99 ≤ l ∧ l ≤ 99 := by
  simp only [isLb, Bool.and_eq_true, decide_eq_true_eq] at h
  exact ⟨h.1.2, h.2⟩


theorem cst_cnt : ∀ (n : Nat) (f t : Ty) (l : Int), (cst n f t l).cnt + 2 ≤ 2 ^ (n + 1)
  | 0, _, _, _ => by simp [cst, Co.cnt, ccntL]
  | n + 1, f, t, l => by
    have hp : 0 < 2 ^ n := Nat.pow_pos (by omega)
    have h1 := fun f t l => cst_cnt n f t l
    simp only [cst]
    simp only [Nat.pow_succ] at *
    split
    · simp only [Co.cnt, ccntL, List.length_nil]; omega
    · split
      · have := h1 f (gk (kindT f)) l
        simp only [Co.cnt, ccntL, List.length_cons, List.length_nil]; omega
      · split
        · have := h1 (gk (kindT t)) t l
          simp only [Co.cnt, ccntL, List.length_cons, List.length_nil]; omega
        · split
          · rename_i f1 f2 t1 t2 _ _
            have a1 := h1 t1 f1 (-l)
            have a2 := h1 f2 t2 l
            have a3 := h1 f1 t1 l
            split <;> (simp only [Co.cnt, ccntL, List.length_cons, List.length_nil]; omega)
          · simp only [Co.cnt, ccntL, List.length_nil]; omega


theorem isLb_neg {l : Int} (h : isLb l = true) : isLb (-l) = true := by
  simp only [isLb, Bool.and_eq_true, decide_eq_true_eq, bne_iff_ne, ne_eq] at *
  omega

theorem plain_notUnk {c : Co} (h : plainC c = true) : unkC c = false := by
  obtain ⟨k, g, l, ts, rfl⟩ := c.shape
  simp only [plainC, unkC, Bool.or_eq_true, Bool.and_eq_true, beq_iff_eq, bne_iff_ne, ne_eq] at *
  rw [Bool.eq_false_iff]
  intro h2
  simp only [Bool.or_eq_true, Bool.and_eq_true, beq_iff_eq] at h2
  omega

theorem kindT_gk (k : Int) : kindT (gk k) = k := rfl

/-- The coercion of a cast, at every level. -/
theorem shpK_cst : ∀ (n : Nat) (f t : Ty) (l : Int) (d : Nat), fuelOk n d f t → shp d f = true → shp d t = true → cons f t = true → isLb l = true → shpK n (cst n f t l) = true ∧ (kindT f = kindT t → kindT f ≠ 1 → plainC (cst n f t l) = true) := by
  intro n
  induction n with
  | zero =>
    intro f t l d hn hf ht
    exfalso
    cases d with
    | zero => simp [shp] at hf
    | succ d => rcases hn with hn | ⟨hn, _⟩ <;> omega
  | succ n ih =>
    intro f t l d hn hf ht hc hl
    cases cstK hf ht hc with
    | id k h =>
      rw [cst_id]
      refine ⟨?_, fun _ h1 => ?_⟩
      · rcases h with rfl | rfl | rfl <;> rfl
      · rcases h with rfl | rfl | rfl
        · exact absurd rfl h1
        · rfl
        · rfl
    | inj _ h =>
      rw [cst_inj h]
      have hn2 : 2 * d ≤ n + 1 := by
        rcases hn with hn | ⟨_, hk⟩
        · exact hn
        · exact absurd hk h
      obtain ⟨h1, h2⟩ := ih f (gk (kindT f)) l d (.inr ⟨hn2, (kindT_gk _).symm⟩) hf (shp_gk hf) (cons_gk (shp_wf hf)).1 hl
      refine ⟨?_, fun e => absurd e h⟩
      have h3 := h2 (kindT_gk _).symm h
      simp [shpK, nodeC, h1, h3]
    | prj _ h =>
      rw [cst_prj h]
      have hn2 : 2 * d ≤ n + 1 := by
        rcases hn with hn | ⟨_, hk⟩
        · exact hn
        · exact absurd hk.symm h
      obtain ⟨h1, h2⟩ := ih (gk (kindT t)) t l d (.inr ⟨hn2, kindT_gk _⟩) (shp_gk ht) ht (cons_gk (shp_wf ht)).2 hl
      refine ⟨?_, fun e h0 => absurd rfl h0⟩
      have h3 := plain_notUnk (h2 (kindT_gk _) (by rw [kindT_gk _]; exact h))
      simp [shpK, nodeC, h1, h3, hl]
    | two k f1 f2 t1 t2 h a1 a2 b1 b2 e1 e2 hd1 =>
      have h2 : 2 * (d - 1) ≤ n := by rcases hn with hn | ⟨hn, _⟩ <;> omega
      rw [cst_two h]
      have g2 := (ih f2 t2 l (d - 1) (.inl h2) a2 b2 e2 hl).1
      rcases h with rfl | rfl
      · have g1 := (ih t1 f1 (-l) (d - 1) (.inl h2) b1 a1 (cons_symm2 e1) (isLb_neg hl)).1
        simp [shpK, nodeC, g1, g2, plainC]
      · have g1 := (ih f1 t1 l (d - 1) (.inl h2) a1 b1 e1 hl).1
        simp [shpK, nodeC, g1, g2, plainC]
end Go.Proofs.Ytolhfcpmhhhjpaa

namespace Go.Proofs.Ytolhfcpmhhhjpaa
open Go.RowKit

theorem Try.infoInt : (Try.prog.info? 3).map (fun i => (i.zero, i.size, i.bytes)) = some (some (.int .i64 0), 1, 8) := by kernel_rfl
theorem Try.underInts : Try.prog.underlying 34 = some (.slice 3) := by kernel_rfl

/-- The slice v of the call's own, from block B on, reads as the numbers ds. -/
def GrowI (B : Nat) (ds : List Int) (v : Value) (w : World) : Prop := w.ownsRow B 3 1 v ds.length (ds.map (Value.int .i64))

theorem GrowI.zero (B : Nat) (w : World) : GrowI B [] (.slice none 0 0) w := World.ownsRow_nil w _ _ _

theorem GrowI.new {B : Nat} {w : World} (h : B ≤ w.heap.size) : GrowI B [] (.slice (some ⟨w.heap.size, 0, none⟩) 0 0) (w.alloc (Obj.cells #[] 3)) :=
  ⟨rfl, .inr ⟨w.heap.size, 0, #[], rfl, h, alloc_new _ _, Nat.le_refl _, Nat.zero_le _, rfl, rfl⟩⟩

theorem GrowI.below {B : Nat} {ds : List Int} {v : Value} {w w' : World} (h : GrowI B ds v w) (hb : Below w.heap.size w w') : GrowI B ds v w' := by
  refine World.ownsRow.kept h (grown_of_below hb none) ?_
  cases v.ownBlock with
  | none => exact .inl rfl
  | some b => exact .inr (by simp)

theorem GrowI.mono {B B' : Nat} {ds : List Int} {v : Value} {w : World} (h : GrowI B ds v w) (hB : B' ≤ B) : GrowI B' ds v w := by
  obtain ⟨h1, h2⟩ := h
  refine ⟨h1, ?_⟩
  rcases h2 with h2 | ⟨g, cap, cur, h3, h4, h5⟩
  · exact .inl h2
  · exact .inr ⟨g, cap, cur, h3, Nat.le_trans hB h4, h5⟩

theorem GrowI.shape {B : Nat} {ds : List Int} {v : Value} {w : World} (h : GrowI B ds v w) : ∃ a cap, v = .slice a ds.length cap := by
  rcases h.2 with ⟨rfl, h0⟩ | ⟨g, cap, cur, rfl, _⟩
  · exact ⟨none, 0, by rw [h0]⟩
  · exact ⟨_, _, rfl⟩

theorem GrowI.own_ge {B : Nat} {ds : List Int} {v : Value} {w : World} (h : GrowI B ds v w) : ∀ b, v.ownBlock = some b → B ≤ b ∧ b < w.heap.size := fun b hb => h.lt b hb

/-- The elements' cells. -/
theorem GrowI.cells {B : Nat} {ds : List Int} {a : Option Addr} {n cap : Nat} {w : World} (h : GrowI B ds (.slice a n cap) w) (j : Nat) (hj : j < ds.length) :
    ∃ g, a = some ⟨g, 0, none⟩ ∧ g < w.heap.size ∧ B ≤ g ∧ w.cell? ⟨g, j, none⟩ = some (.int .i64 ds[j]) ∧ w.frozen? ⟨g, j, none⟩ = false := by
  rcases h.2 with ⟨h0, h1⟩ | ⟨g, cap', cur, e, hb, hg, hc, hm, hsz, hx⟩
  · omega
  · cases e
    refine ⟨g, rfl, lt_of_block hg, hb, ?_, frozen_of_block hg⟩
    rw [cell_of_block hg]
    have h2 : (cur.toList.take (ds.length * 1))[j]? = (ds.map (Value.int .i64))[j]? := by rw [hx]
    rw [List.getElem?_take_of_lt (by omega), Array.getElem?_toList] at h2
    rw [h2]
    simp [hj]

theorem GrowI.snoc {B : Nat} {ds : List Int} {x : Int} {g n cap : Nat} {w : World} (h : w.ownsRow B 3 1 (.slice (some ⟨g, 0, none⟩) n cap) n (ds.map (Value.int .i64) ++ [.int .i64 x])) (hn : n = ds.length + 1) : GrowI B (ds ++ [x]) (.slice (some ⟨g, 0, none⟩) n cap) w := by
  subst hn
  unfold GrowI
  simpa using h

/-- A new slice of numbers handed back. -/
def MadeI (w : World) (ds : List Int) (e : Ending) (w' : World) : Prop := ∃ v, e = .returned v ∧ GrowI w.heap.size ds v w' ∧ Below w.heap.size w w'

theorem m_cell {w w' : World} {v u : Value} {M B s0 : Nat} (hg : w.grownBy w' v.ownBlock) (ho : ∀ b, v.ownBlock = some b → B ≤ b ∧ b < s0) (hMB : M < B) (hc : w.cell? ⟨M, 0, none⟩ = some u) : w'.cell? ⟨M, 0, none⟩ = some u :=
  (hg.cell_far ⟨M, 0, none⟩ (World.block_lt_of_cell? _ _ hc) (fun e => by have : M = M := rfl; have := (ho M e.symm).1; omega)).trans hc

theorem m_frozen {w w' : World} {v : Value} {M B s0 : Nat} {C : Array Value} {T : TypeId} (hg : w.grownBy w' v.ownBlock) (ho : ∀ b, v.ownBlock = some b → B ≤ b ∧ b < s0) (hMB : M < B) (hc : w.heap[M]? = some (.cells C T (0, 0))) : w'.frozen? ⟨M, 0, none⟩ = false :=
  (hg.frozen_far ⟨M, 0, none⟩ (lt_of_block hc) (fun e => by have := (ho M e.symm).1; omega)).trans (frozen_of_block hc)

end Go.Proofs.Ytolhfcpmhhhjpaa

namespace Go.Proofs.Ytolhfcpmhhhjpaa
open Go.RowKit

theorem callOk_lc : CallOkT 47 := fun _ _ => by kernel_rfl

/-- The variable of block M holds a slice of the call's own that reads as the numbers ds. -/
def LabAt (M B : Nat) (ds : List Int) (v : Value) (w : World) : Prop := w.heap[M]? = some (.cells #[v] 34 (0, 0)) ∧ GrowI B ds v w ∧ M < B

theorem LabAt.below {M B : Nat} {ds : List Int} {v : Value} {w w' : World} (h : LabAt M B ds v w) (hb : Below w.heap.size w w') : LabAt M B ds v w' := ⟨blk h.1 hb, h.2.1.below hb, h.2.2⟩

theorem GrowI.setCell {B : Nat} {ds : List Int} {v : Value} {w : World} (h : GrowI B ds v w) {p : Addr} (hp : p.block < B) (u : Value) : GrowI B ds v (w.setCell p u) := ownsRow_setCell_below h hp u

theorem lab_close {w w0 w1 w3 : World} {M B g n cp : Nat} {ds : List Int} {x : Int} {v vold : Value} {o : Obj} (hO : w0.heap[M]? = some (.cells #[vold] 34 (0, 0))) (hG : GrowI B ds v w0) (hb0 : Below w.heap.size w w0) (hw1 : w1 = w0.alloc o) (hg : w1.grownBy w3 v.ownBlock)
    (hown : w3.ownsRow B 3 1 (.slice (some ⟨g, 0, none⟩) n cp) n (ds.map (Value.int .i64) ++ [.int .i64 x])) (hn : n = ds.length + 1) (hat : v.ownBlock = some g ∨ g = w1.heap.size) (hMB : M < B) (_hB : B ≤ w0.heap.size) :
    LabAt M B (ds ++ [x]) (.slice (some ⟨g, 0, none⟩) n cp) (w3.setCell ⟨M, 0, none⟩ (.slice (some ⟨g, 0, none⟩) n cp)) ∧ Lr M w (w3.setCell ⟨M, 0, none⟩ (.slice (some ⟨g, 0, none⟩) n cp)) v (.slice (some ⟨g, 0, none⟩) n cp) := by
  have hb1 : Below w0.heap.size w0 w1 := by rw [hw1]; exact (Below.refl _ _).alloc (Nat.le_refl _) _
  have hMo : some M ≠ v.ownBlock := fun e => by have := (hG.own_ge M e.symm).1; omega
  have hM1 := blk hO hb1
  have hM3 := (hg.block M (lt_of_block hM1) hMo).trans hM1
  have s0 := hb0.size
  have s1 := hb1.size
  have s2 := hg.size
  refine ⟨⟨heap_setCell_at hM3 _, (GrowI.snoc hown hn).setCell (p := ⟨M, 0, none⟩) hMB _, hMB⟩, ⟨⟨?_, ?_, ?_, ?_⟩, fun k hk hkM hne => ?_, ?_⟩⟩
  · exact hg.os.trans (hb1.os.trans hb0.os)
  · exact hg.tape.trans (hb1.tape.trans hb0.tape)
  · exact hg.output.trans (hb1.output.trans hb0.output)
  · rw [size_setCell]
    omega
  · rw [Below.heap_setCell _ _ _ _ hkM, hg.block k (by omega) hne, hb1.block k (by omega), hb0.block k hk]
  · rcases hat with h | h
    · exact .inl h.symm
    · exact .inr ⟨g, rfl, by omega⟩

set_option maxRecDepth 100000 in
set_option maxHeartbeats 4000000 in
theorem visitLc (M B : Nat) : CVis 47 #[.pointer (some ⟨M, 0, none⟩)] M B (LabAt M B) List.length lcStep := by
  intro ds v k g l ts a3 c3 fp w hS hat hfp hBw hlen
  obtain ⟨hO, hG, hMB⟩ := hS
  obtain ⟨av, capv, rfl⟩ := hG.shape
  obtain ⟨i0, hi0, hz0, hz1, hz2⟩ := info_parts (P := Try.prog) (e := 3) Try.infoInt
  by_cases h56 : k = 5 ∨ k = 6
  case neg =>
    have e5 : (k == 5) = false := by simp; omega
    have e6 : (k == 6) = false := by simp; omega
    have HE := hid (show lcStep ds (.mk k g l ts) = ds by simp only [lcStep, if_neg h56])
    have hb0 : Below w.heap.size w (w.alloc (Obj.cells #[.int .i64 k, .int .i64 g, .int .i64 l, .slice a3 ts.length c3] 30)) := (Below.refl _ _).alloc (Nat.le_refl _) _
    have HL := hid (LabAt.below ⟨hO, hG, hMB⟩ hb0)
    clear hat hO hG hfp h56
    go_enter Try.func47, Try.ntmps47
    go_wp2_with fail
    first | go_ret | go_end0
    exact ⟨⟨_, rfl⟩, _, by rw [HE.out]; exact HL.out, Lr.of_below hb0 _⟩
  have HE := hid (show lcStep ds (.mk k g l ts) = ds ++ [l] by simp only [lcStep, if_pos h56])
  rcases h56 with rfl | rfl
  · have hb0 : Below w.heap.size w (w.alloc (Obj.cells #[.int .i64 5, .int .i64 g, .int .i64 l, .slice a3 ts.length c3] 30)) := (Below.refl _ _).alloc (Nat.le_refl _) _
    have hs0 : ((w.alloc (Obj.cells #[.int .i64 5, .int .i64 g, .int .i64 l, .slice a3 ts.length c3] 30))).heap.size = w.heap.size + 1 := by simp
    have HGW := hid (hG.below hb0)
    have HO1 := hid (blk hO hb0)
    have HOWN := hid HGW.out.own_ge
    have HBW := hid (Nat.le_trans hBw hb0.size)
    have hMlt : M < w.heap.size := by omega
    obtain ⟨x0, x1, x2, x3⟩ := box4 (Below.refl ((w.alloc (Obj.cells #[.int .i64 5, .int .i64 g, .int .i64 l, .slice a3 ts.length c3] 30))).heap.size (w.alloc (Obj.cells #[.int .i64 5, .int .i64 g, .int .i64 l, .slice a3 ts.length c3] 30)))
    have yM : ((w.alloc (Obj.cells #[.int .i64 5, .int .i64 g, .int .i64 l, .slice a3 ts.length c3] 30))).cell? ⟨M, 0, none⟩ = some (.slice av ds.length capv) := by rw [cell_of_block HO1.out]; rfl
    have hal0 : Below ((w.alloc (Obj.cells #[.int .i64 5, .int .i64 g, .int .i64 l, .slice a3 ts.length c3] 30))).heap.size (w.alloc (Obj.cells #[.int .i64 5, .int .i64 g, .int .i64 l, .slice a3 ts.length c3] 30)) (((w.alloc (Obj.cells #[.int .i64 5, .int .i64 g, .int .i64 l, .slice a3 ts.length c3] 30))).alloc (Obj.cells #[.int .i64 l] 3)) := (Below.refl _ _).alloc (Nat.le_refl _) _
    have zM := cell_keep yM hal0
    have HNEW := hid (show (((w.alloc (Obj.cells #[.int .i64 5, .int .i64 g, .int .i64 l, .slice a3 ts.length c3] 30))).alloc (Obj.cells #[.int .i64 l] 3)).heap[w.heap.size + 1]? = some (Obj.cells #[.int .i64 l] 3) by have := alloc_new ((w.alloc (Obj.cells #[.int .i64 5, .int .i64 g, .int .i64 l, .slice a3 ts.length c3] 30))) (Obj.cells #[.int .i64 l] 3); simpa using this)
    clear hat hO hG hfp
    go_enter Try.func47, Try.ntmps47
    go_wp2_with (refine wpList_append_lies _ rfl (.tmp 11) (.tmp 14) 34 rfl B 3 i0 _ 1 8 Try.underInts hi0 hz0 hz1 hz2 rfl (by omega) (.slice av ds.length capv) ds.length (ds.map (Value.int .i64)) rfl (World.ownsRow.alloc HGW.out _) ⟨w.heap.size + 1, 0, none⟩ 1 1 [.int .i64 l] rfl rfl (World.news_of_block (cs := #[.int .i64 l]) (t := 3) (fr := (0, 0)) HNEW.out) (by simp [Value.oneCell']) (by omega) (by unfold maxLen; omega) (by omega) (by simp; omega) (w.heap.size + 1 + 1) (by simp) ?_; intro g3 cp w3 hown3 hgrow hat3 hlt3; have mF := m_frozen hgrow HOWN.out hMB (blk HO1.out hal0); have m0 := m_cell hgrow HOWN.out hMB zM; clear yM zM)
    have HF := hid (lab_close (w := w) HO1.out HGW.out hb0 rfl hgrow hown3 rfl (by simpa using hat3) hMB HBW.out)
    clear hown3 hgrow hat3 hlt3 m0 mF
    first | go_ret | go_end0 | (go_wp2_with fail; first | go_ret | go_end0)
    obtain ⟨q1, q2⟩ := HF.out
    exact ⟨⟨_, rfl⟩, _, by rw [HE.out]; exact q1, q2⟩
  · have hb0 : Below w.heap.size w (w.alloc (Obj.cells #[.int .i64 6, .int .i64 g, .int .i64 l, .slice a3 ts.length c3] 30)) := (Below.refl _ _).alloc (Nat.le_refl _) _
    have hs0 : ((w.alloc (Obj.cells #[.int .i64 6, .int .i64 g, .int .i64 l, .slice a3 ts.length c3] 30))).heap.size = w.heap.size + 1 := by simp
    have HGW := hid (hG.below hb0)
    have HO1 := hid (blk hO hb0)
    have HOWN := hid HGW.out.own_ge
    have HBW := hid (Nat.le_trans hBw hb0.size)
    have hMlt : M < w.heap.size := by omega
    obtain ⟨x0, x1, x2, x3⟩ := box4 (Below.refl ((w.alloc (Obj.cells #[.int .i64 6, .int .i64 g, .int .i64 l, .slice a3 ts.length c3] 30))).heap.size (w.alloc (Obj.cells #[.int .i64 6, .int .i64 g, .int .i64 l, .slice a3 ts.length c3] 30)))
    have yM : ((w.alloc (Obj.cells #[.int .i64 6, .int .i64 g, .int .i64 l, .slice a3 ts.length c3] 30))).cell? ⟨M, 0, none⟩ = some (.slice av ds.length capv) := by rw [cell_of_block HO1.out]; rfl
    have hal0 : Below ((w.alloc (Obj.cells #[.int .i64 6, .int .i64 g, .int .i64 l, .slice a3 ts.length c3] 30))).heap.size (w.alloc (Obj.cells #[.int .i64 6, .int .i64 g, .int .i64 l, .slice a3 ts.length c3] 30)) (((w.alloc (Obj.cells #[.int .i64 6, .int .i64 g, .int .i64 l, .slice a3 ts.length c3] 30))).alloc (Obj.cells #[.int .i64 l] 3)) := (Below.refl _ _).alloc (Nat.le_refl _) _
    have zM := cell_keep yM hal0
    have HNEW := hid (show (((w.alloc (Obj.cells #[.int .i64 6, .int .i64 g, .int .i64 l, .slice a3 ts.length c3] 30))).alloc (Obj.cells #[.int .i64 l] 3)).heap[w.heap.size + 1]? = some (Obj.cells #[.int .i64 l] 3) by have := alloc_new ((w.alloc (Obj.cells #[.int .i64 6, .int .i64 g, .int .i64 l, .slice a3 ts.length c3] 30))) (Obj.cells #[.int .i64 l] 3); simpa using this)
    clear hat hO hG hfp
    go_enter Try.func47, Try.ntmps47
    go_wp2_with (refine wpList_append_lies _ rfl (.tmp 11) (.tmp 14) 34 rfl B 3 i0 _ 1 8 Try.underInts hi0 hz0 hz1 hz2 rfl (by omega) (.slice av ds.length capv) ds.length (ds.map (Value.int .i64)) rfl (World.ownsRow.alloc HGW.out _) ⟨w.heap.size + 1, 0, none⟩ 1 1 [.int .i64 l] rfl rfl (World.news_of_block (cs := #[.int .i64 l]) (t := 3) (fr := (0, 0)) HNEW.out) (by simp [Value.oneCell']) (by omega) (by unfold maxLen; omega) (by omega) (by simp; omega) (w.heap.size + 1 + 1) (by simp) ?_; intro g3 cp w3 hown3 hgrow hat3 hlt3; have mF := m_frozen hgrow HOWN.out hMB (blk HO1.out hal0); have m0 := m_cell hgrow HOWN.out hMB zM; clear yM zM)
    have HF := hid (lab_close (w := w) HO1.out HGW.out hb0 rfl hgrow hown3 rfl (by simpa using hat3) hMB HBW.out)
    clear hown3 hgrow hat3 hlt3 m0 mF
    first | go_ret | go_end0 | (go_wp2_with fail; first | go_ret | go_end0)
    obtain ⟨q1, q2⟩ := HF.out
    exact ⟨⟨_, rfl⟩, _, by rw [HE.out]; exact q1, q2⟩
end Go.Proofs.Ytolhfcpmhhhjpaa

namespace Go.Proofs.Ytolhfcpmhhhjpaa
open Go.RowKit

mutual
def coEq : Co → Co → Bool
  | .mk k g l ts, .mk k' g' l' us => (k == k') && ((g == g') && ((l == l') && coEqL ts us))
def coEqL : List Co → List Co → Bool
  | [], [] => true
  | t :: ts, u :: us => coEq t u && coEqL ts us
  | _, _ => false
end

mutual
theorem coEq_refl : ∀ t : Co, coEq t t = true
  | .mk k g l ts => by simp [coEq, coEqL_refl ts]
theorem coEqL_refl : ∀ ts : List Co, coEqL ts ts = true
  | [] => by simp only [coEqL]
  | t :: ts => by simp [coEqL, coEq_refl t, coEqL_refl ts]
end

mutual
theorem eq_of_coEq : ∀ {t u : Co}, coEq t u = true → t = u
  | .mk k g l ts, .mk k' g' l' us, h => by
    simp only [coEq, Bool.and_eq_true, beq_iff_eq] at h
    rw [h.1, h.2.1, h.2.2.1, eq_of_coEqL h.2.2.2]
theorem eq_of_coEqL : ∀ {ts us : List Co}, coEqL ts us = true → ts = us
  | [], [], _ => rfl
  | [], _ :: _, h => by simp only [coEqL] at h; cases h
  | _ :: _, [], h => by simp only [coEqL] at h; cases h
  | t :: ts, u :: us, h => by
    simp only [coEqL, Bool.and_eq_true] at h
    rw [eq_of_coEq h.1, eq_of_coEqL h.2]
end

end Go.Proofs.Ytolhfcpmhhhjpaa

namespace Go.Proofs.Ytolhfcpmhhhjpaa
open Go.RowKit

theorem GrowI.holds {B : Nat} {ds : List Int} {g n cap : Nat} {w : World} (h : GrowI B ds (.slice (some ⟨g, 0, none⟩) n cap) w) : Sort.Holds (Value.int .i64) w g 0 ds.toArray ∧ g < w.heap.size ∧ B ≤ g ∧ ds.length ≤ cap ∧ ds.length = n := by
  rcases h.2 with ⟨h0, _⟩ | ⟨g', cap', cur, e, hb, hg, hc, hm, hsz, hx⟩
  · cases h0
  · cases e
    exact ⟨holds_of_blockI hg (by simpa using hx), lt_of_block hg, hb, hc, rfl⟩

/-- Sorted in its own place. -/
theorem sort_own (B : Nat) (zs : List Int) (v : Value) (w : World) (h : GrowI B zs v w) (hB : B ≤ w.heap.size) (hl : zs.length ≤ 4194300) :
    Calls Try.prog 84 #[v] w fun e w' => e = .returned (.tuple #[]) ∧ GrowI B (zs.mergeSort fun x y => decide (x ≤ y)) v w' ∧ Lr B w w' v v := by
  have hlen : (zs.mergeSort fun x y => decide (x ≤ y)).length = zs.length := List.length_mergeSort zs
  have h0 := h
  rcases h0.2 with ⟨rfl, hz⟩ | ⟨g, cap, cur, rfl, hb, hg, hc, hm, hsz, hx⟩
  · have : zs = [] := List.length_eq_zero_iff.1 hz
    subst this
    refine (Any.slices_Sort_int_none srtLays189 none 0 w).mono ?_
    rintro e w' ⟨rfl, rfl⟩
    exact ⟨rfl, by simpa using h, Lr.of_below (Below.refl _ _) _⟩
  · obtain ⟨hH, hlt, _, _, _⟩ := h.holds
    refine (sortInts g 0 cap zs w hH hlt (by omega)).mono ?_
    rintro e w' ⟨rfl, n, os, rfl⟩
    have hgr := grownBy_sortedI (n := n) (os := os) (g := g) (w := w) (zs.mergeSort fun x y => decide (x ≤ y)).toArray
    refine ⟨rfl, ?_, ⟨⟨hgr.os, hgr.tape, hgr.output, hgr.size⟩, fun k hk _ hn => hgr.block k hk hn, .inl rfl⟩⟩
    unfold GrowI
    rw [hlen]
    exact ownsRow_sortedI hlen hb hg hc hm hsz

/-- One of each, in its own place. -/
theorem compact_own (B : Nat) (zs : List Int) (v : Value) (w : World) (h : GrowI B zs v w) (hB : B ≤ w.heap.size) (hl : zs.length ≤ 4194300) :
    Calls Try.prog 85 #[v] w fun e w' => ∃ v', e = .returned v' ∧ GrowI B (Lib.compact zs) v' w' ∧ Lr B w w' v v' := by
  have h0 := h
  rcases h0.2 with ⟨rfl, hz⟩ | ⟨g, cap, cur, rfl, hb, hg, hc, hm, hsz, hx⟩
  · have : zs = [] := List.length_eq_zero_iff.1 hz
    subst this
    refine (Any.slices_Compact_int_empty cpcLays20 none 0 w).mono ?_
    rintro e w' ⟨rfl, rfl⟩
    exact ⟨_, rfl, by simpa [Lib.compact, Lib.compactUpTo] using h, Lr.of_below (Below.refl _ _) _⟩
  · obtain ⟨hH, hlt, _, _, _⟩ := h.holds
    refine (compactInts g 0 cap zs w hH (by omega) hc).mono ?_
    rintro e w' ⟨rfl, q, rfl⟩
    have hle : (Lib.compact zs).length ≤ zs.length := by
      unfold Lib.compact Lib.compactUpTo
      rw [List.length_map]
      have := List.length_filter_le (Lib.keeps zs.toArray) (List.range zs.length)
      simpa using this
    generalize hD : (Lib.compact zs ++ List.replicate (zs.length - (Lib.compact zs).length) 0).toArray = D
    have hgr := grownBy_sortedI (n := q) (os := #[]) (g := g) (w := w) D
    have hhp := heap_sortedI (n := q) (os := #[]) D hg
    rw [Sort.grow_empty] at hgr hhp
    refine ⟨_, rfl, ⟨by simp, .inr ⟨g, cap, _, rfl, hb, hhp, by omega, hm, by simp [Sort.putCells, hsz], ?_⟩⟩, ⟨⟨hgr.os, hgr.tape, hgr.output, hgr.size⟩, fun k hk _ hn => hgr.block k hk hn, .inl rfl⟩⟩
    subst hD
    apply List.ext_getElem?
    intro j
    by_cases hj : j < (Lib.compact zs).length
    · rw [List.getElem?_take_of_lt (by omega), Array.getElem?_toList]
      have hj2 : j < cur.size := by omega
      simp [Sort.putCells, hj, hj2, List.getElem?_append_left]
      intro h1
      omega
    · rw [List.getElem?_take_eq_none (by omega), List.getElem?_eq_none (by simp; omega)]

theorem sortedLabels_any (B : Nat) (zs : List Int) (v : Value) (w : World) (h : GrowI B zs v w) (hB : B ≤ w.heap.size) (hl : zs.length ≤ 4194300) :
    Calls Try.prog 48 #[v] w fun e w' => ∃ v', e = .returned v' ∧ GrowI B (Lib.compact (zs.mergeSort fun x y => decide (x ≤ y))) v' w' ∧ Lr B w w' v v' := by
  have HS := hid (sort_own B zs v w h hB hl)
  obtain ⟨av, capv, rfl⟩ := h.shape
  clear h
  go_enter Try.func48, Try.ntmps48
  go_wp2_with fail
  refine HS.out.mono ?_
  rintro e w1 ⟨rfl, hG1, hr1⟩
  have HC := hid (compact_own B _ _ w1 hG1 (Nat.le_trans hB hr1.1.2.2.2) (by rw [List.length_mergeSort]; omega))
  have HR1 := hid hr1
  clear hG1 hr1
  go_wp2_with fail
  refine HC.out.mono ?_
  rintro e w2 ⟨v2, rfl, hG2, hr2⟩
  have HF := hid (And.intro hG2 (HR1.out.trans hr2))
  clear hG2 hr2
  go_wp2_with fail
  go_ret
  exact ⟨v2, rfl, HF.out.1, HF.out.2⟩
end Go.Proofs.Ytolhfcpmhhhjpaa

namespace Go.Proofs.Ytolhfcpmhhhjpaa
open Go.RowKit

theorem second_newQ (w : World) (X Y : Obj) : ((w.alloc X).alloc Y).heap[w.heap.size + 1]? = some Y := by
  have hs : (w.alloc X).heap.size = w.heap.size + 1 := by simp
  rw [← hs]
  exact alloc_new _ _

theorem boxes44Q {w wr : World} {x y z u x' y' z' u' : Value} {T T' : TypeId} (h : Below ((w.alloc (Obj.cells #[x, y, z, u] T)).alloc (Obj.cells #[x', y', z', u'] T')).heap.size ((w.alloc (Obj.cells #[x, y, z, u] T)).alloc (Obj.cells #[x', y', z', u'] T')) wr) :
    wr.heap[w.heap.size]? = some (Obj.cells #[x, y, z, u] T) ∧ wr.heap[w.heap.size + 1]? = some (Obj.cells #[x', y', z', u'] T') := by
  refine ⟨(h.block w.heap.size (by simp; omega)).trans ((Below.heap_alloc _ _ _ (by simp)).trans (alloc_new w _)), ?_⟩
  rw [h.block (w.heap.size + 1) (by simp)]
  exact second_newQ _ _ _

theorem blkMQ {w w' : World} {M : Nat} {o : Obj} (h : w.heap[M]? = some o) (hb : Below w.heap.size w w') : w'.heap[M]? = some o := (hb.block _ (lt_of_block h)).trans h

end Go.Proofs.Ytolhfcpmhhhjpaa

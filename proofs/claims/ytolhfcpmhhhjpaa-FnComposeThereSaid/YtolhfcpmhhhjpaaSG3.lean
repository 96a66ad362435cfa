/- The document's chapter 6 as plain functions on coercions. Coercions of casts, what a coercion leads to, and composition, as plain functions. Coercions made of others: rows of one and of two, and what is stored into a result's cell. The tag of a coercion: the specification's l6Tag. The tag of a coercion: the program's tagOf. A slice of coercions that grows by append, one element a round. What a composition hands back, and closings. The specification's l6Compose, with an injection behind a plain coercion. The coercion of a cast is valid but for its depth; its size. What a visit leaves: worlds in which only new blocks, one variable and a slice's own block are written. The program's eachCoercion, over any visit that has a contract. The laws' own helper toCoercion: a copy in memory of its own. The program's copyCoercion. The laws' own helper eqCoercion: equality of trees, at every level. TypeSame, of the specification. -/
import Derived.Test.YtolhfcpmhhhjpaaSCo
import Derived.Test.YtolhfcpmhhhjpaaSPkA
import Derived.Test.YtolhfcpmhhhjpaaSG1
import Derived.StillTailTactics
namespace Go.Proofs.Ytolhfcpmhhhjpaa
open Go.RowKit

def plainC : Co → Bool
  | .mk k g _ _ => k == 2 || k == 3 || k == 1 && g != 1

def unkC : Co → Bool
  | .mk k g _ _ => k == 5 || k == 1 && g == 1

/-- A node is right but for what lies below it. -/
def nodeC (k g l : Int) (ts : List Co) : Bool :=
  if k = 1 then ts.length == 0 && l == 0 && (decide (1 ≤ g) && decide (g ≤ 3))
  else if k = 2 ∨ k = 3 then ts.length == 2 && l == 0 && g == 0
  else if k = 4 then ts.length == 1 && l == 0 && g == 0 && ts.all plainC
  else if k = 5 then ts.length == 1 && isLb l && g == 0 && ts.all (fun t => !unkC t)
  else if k = 6 then ts.length == 0 && isLb l && (decide (2 ≤ g) && decide (g ≤ 5))
  else false

def shpK : Nat → Co → Bool
  | 0, _ => false
  | d + 1, .mk k g l ts => nodeC k g l ts && ts.all (shpK d)

/-- The document's CoercionValid. -/
def vldK (t : Co) : Bool := shpK 9 t

mutual
def tagC : Co → Int
  | .mk k g _ ts => if k = 2 then 4 else if k = 3 then 5 else if k = 4 then tagL ts else g
def tagL : List Co → Int
  | [] => 0
  | t :: _ => tagC t
end

mutual
def hgt : Co → Int
  | .mk k _ _ ts => if k = 4 ∨ k = 5 then hgtL ts else hgtL ts + 1
def hgtL : List Co → Int
  | [] => 0
  | t :: ts => max (hgt t) (hgtL ts)
end

mutual
theorem hgt_bd : ∀ t : Co, 0 ≤ hgt t ∧ hgt t ≤ t.cnt + 1
  | .mk k g l ts => by
    have := hgtL_bd ts
    simp only [hgt, Co.cnt]
    split <;> omega
theorem hgtL_bd : ∀ ts : List Co, 0 ≤ hgtL ts ∧ hgtL ts ≤ ccntL ts + ts.length
  | [] => by simp [hgtL]
  | t :: ts => by
    have h1 := hgt_bd t
    have h2 := hgtL_bd ts
    simp only [hgtL, ccntL, List.length_cons]
    omega
end

theorem hgtL_snoc : ∀ (ts : List Co) (t : Co), hgtL (ts ++ [t]) = max (hgtL ts) (hgt t)
  | [], t => by
    have := (hgt_bd t).1
    simp only [List.nil_append, hgtL]
    omega
  | u :: ts, t => by
    simp only [List.cons_append, hgtL, hgtL_snoc ts t]
    omega

mutual
/-- Identities, functions and pairs only. -/
def idC : Co → Bool
  | .mk k _ _ ts => (k == 1 || (k == 2 || k == 3)) && idL ts
def idL : List Co → Bool
  | [] => true
  | t :: ts => idC t && idL ts
end

theorem shpK_all {d : Nat} {ts : List Co} {k : Nat} (h : k < ts.length) : (ts.drop k).all (shpK d) = (shpK d ts[k] && (ts.drop (k + 1)).all (shpK d)) := by
  rw [List.drop_eq_getElem_cons h, List.all_cons]

theorem shpK_up : ∀ {d e : Nat} {t : Co}, d ≤ e → shpK d t = true → shpK e t = true
  | 0, _, _, _, h => by simp [shpK] at h
  | d + 1, 0, _, hde, _ => by omega
  | d + 1, e + 1, .mk k g l ts, hde, h => by
    simp only [shpK, Bool.and_eq_true, List.all_eq_true] at h ⊢
    exact ⟨h.1, fun t ht => shpK_up (by omega) (h.2 t ht)⟩

theorem shpK_node {d : Nat} {k g l : Int} {ts : List Co} (h : shpK (d + 1) (.mk k g l ts) = true) : nodeC k g l ts = true ∧ ∀ t ∈ ts, shpK d t = true := by
  simpa only [shpK, Bool.and_eq_true, List.all_eq_true] using h

/-- What a right node looks like. -/
theorem nodeC_cases {k g l : Int} {ts : List Co} (h : nodeC k g l ts = true) :
    (k = 1 ∧ ts = [] ∧ l = 0 ∧ 1 ≤ g ∧ g ≤ 3) ∨ (k = 2 ∧ g = 0 ∧ l = 0 ∧ ∃ a b, ts = [a, b]) ∨ (k = 3 ∧ g = 0 ∧ l = 0 ∧ ∃ a b, ts = [a, b]) ∨
    (k = 4 ∧ g = 0 ∧ l = 0 ∧ ∃ a, ts = [a] ∧ plainC a = true) ∨ (k = 5 ∧ g = 0 ∧ isLb l = true ∧ ∃ a, ts = [a] ∧ unkC a = false) ∨ (k = 6 ∧ ts = [] ∧ isLb l = true ∧ 2 ≤ g ∧ g ≤ 5) := by
  unfold nodeC at h
  by_cases h1 : k = 1
  · subst h1
    simp [List.length_eq_zero_iff] at h
    exact .inl ⟨rfl, h.1.1, h.1.2, h.2.1, h.2.2⟩
  rw [if_neg h1] at h
  by_cases h2 : k = 2 ∨ k = 3
  · rw [if_pos h2] at h
    simp only [Bool.and_eq_true, beq_iff_eq] at h
    obtain ⟨⟨hl, rfl⟩, rfl⟩ := h
    match ts, hl with
    | [a, b], _ => rcases h2 with rfl | rfl
                   · exact .inr (.inl ⟨rfl, rfl, rfl, a, b, rfl⟩)
                   · exact .inr (.inr (.inl ⟨rfl, rfl, rfl, a, b, rfl⟩))
  rw [if_neg h2] at h
  by_cases h4 : k = 4
  · subst h4
    simp only [if_true, Bool.and_eq_true, beq_iff_eq] at h
    obtain ⟨⟨⟨hl, rfl⟩, rfl⟩, ha⟩ := h
    match ts, hl with
    | [a], _ => exact .inr (.inr (.inr (.inl ⟨rfl, rfl, rfl, a, rfl, by simpa using ha⟩)))
  rw [if_neg h4] at h
  by_cases h5 : k = 5
  · subst h5
    simp only [if_true, Bool.and_eq_true, beq_iff_eq] at h
    obtain ⟨⟨⟨hl, hb⟩, rfl⟩, ha⟩ := h
    match ts, hl with
    | [a], _ => exact .inr (.inr (.inr (.inr (.inl ⟨rfl, rfl, hb, a, rfl, by simpa using ha⟩))))
  rw [if_neg h5] at h
  by_cases h6 : k = 6
  · subst h6
    simp only [if_true, Bool.and_eq_true, beq_iff_eq, decide_eq_true_eq, List.length_eq_zero_iff] at h
    exact .inr (.inr (.inr (.inr (.inr ⟨rfl, h.1.1, h.1.2, h.2.1, h.2.2⟩))))
  rw [if_neg h6] at h
  cases h

end Go.Proofs.Ytolhfcpmhhhjpaa

namespace Go.Proofs.Ytolhfcpmhhhjpaa
open Go.RowKit

theorem shpK_tag : ∀ {d : Nat} {t : Co}, shpK d t = true → unkC t = false → 2 ≤ tagC t ∧ tagC t ≤ 5
  | 0, _, h, _ => by simp [shpK] at h
  | d + 1, .mk k g l ts, h, hu => by
    obtain ⟨hn, hs⟩ := shpK_node h
    rcases nodeC_cases hn with ⟨rfl, rfl, rfl, h1, h2⟩ | ⟨rfl, rfl, rfl, a, b, rfl⟩ | ⟨rfl, rfl, rfl, a, b, rfl⟩ | ⟨rfl, rfl, rfl, a, rfl, hp⟩ | ⟨rfl, rfl, hl, a, rfl, hp⟩ | ⟨rfl, rfl, hl, h1, h2⟩
    · simp [unkC] at hu
      simp [tagC]
      omega
    · simp [tagC]
    · simp [tagC]
    · have hu' : unkC a = false := by
        obtain ⟨ka, ga, la, ta, rfl⟩ := a.shape
        simp only [plainC, unkC] at hp ⊢
        simp at hp ⊢
        omega
      have := shpK_tag (hs a (by simp)) hu'
      simpa [tagC, tagL] using this
    · simp [unkC] at hu
    · simp [tagC]
      omega

def kidsT' : Ty → List Ty
  | .mk _ ts => ts

/-- The coercion leads from the one type to the other. -/
def typC : Nat → Co → Ty → Ty → Bool
  | 0, _, _, _ => false
  | d + 1, .mk k g _ ts, f, t =>
    if k = 1 then kindT f == g && kindT t == g
    else if k = 2 then
      match ts, kidsT' f, kidsT' t with
      | [a, b], [f1, f2], [t1, t2] => kindT f == 4 && (kindT t == 4 && (typC d a t1 f1 && typC d b f2 t2))
      | _, _, _ => false
    else if k = 3 then
      match ts, kidsT' f, kidsT' t with
      | [a, b], [f1, f2], [t1, t2] => kindT f == 5 && (kindT t == 5 && (typC d a f1 t1 && typC d b f2 t2))
      | _, _, _ => false
    else if k = 4 then
      match ts with
      | [a] => kindT t == 1 && (kindT f == tagC a && typC d a f (gk (kindT f)))
      | _ => false
    else if k = 5 then
      match ts with
      | [a] => kindT f == 1 && typC d a (gk (tagC a)) t
      | _ => false
    else kindT f == g

/-- The coercion of a cast. -/
def cst : Nat → Ty → Ty → Int → Co
  | 0, _, _, _ => .mk 0 0 0 []
  | n + 1, f, t, l =>
    if kindT f = kindT t ∧ kidsT' f = [] then .mk 1 (kindT f) 0 []
    else if kindT t = 1 then .mk 4 0 0 [cst n f (gk (kindT f)) l]
    else if kindT f = 1 then .mk 5 0 l [cst n (gk (kindT t)) t l]
    else match kidsT' f, kidsT' t with
      | [f1, f2], [t1, t2] => if kindT f = 4 then .mk 2 0 0 [cst n t1 f1 (-l), cst n f2 t2 l] else .mk 3 0 0 [cst n f1 t1 l, cst n f2 t2 l]
      | _, _ => .mk 0 0 0 []

end Go.Proofs.Ytolhfcpmhhhjpaa

namespace Go.Proofs.Ytolhfcpmhhhjpaa
open Go.RowKit

theorem co_one {w : World} {k g l : Int} {t : Co} {b : Nat} {v0 v1 v2 v3 : Value} {f : List Nat} (hE : w.heap[b]? = some (Obj.cells #[v0, v1, v2, v3] 30)) (ht : t.At w (.agg #[v0, v1, v2, v3]) f) :
    (Co.mk k g l [t]).At w (.agg #[.int .i64 k, .int .i64 g, .int .i64 l, .slice (some ⟨b, 0, none⟩) 1 1]) (b :: f) := by
  refine Co.at_mk.2 ⟨_, rfl, .inr ⟨b, 0, 1, f, rfl, by simp, by simp, by simp [maxLen], ?_, rfl⟩⟩
  refine ⟨v0, v1, v2, v3, f, [], ?_, ?_, ?_, ?_, ht, by simp only [Co.AtL], by simp⟩ <;> (rw [cell_of_block hE]; rfl)

theorem co_two {w : World} {k g l : Int} {t u : Co} {b : Nat} {v0 v1 v2 v3 u0 u1 u2 u3 : Value} {f f' : List Nat} (hE : w.heap[b]? = some (Obj.cells #[v0, v1, v2, v3, u0, u1, u2, u3] 30)) (ht : t.At w (.agg #[v0, v1, v2, v3]) f) (hu : u.At w (.agg #[u0, u1, u2, u3]) f') :
    (Co.mk k g l [t, u]).At w (.agg #[.int .i64 k, .int .i64 g, .int .i64 l, .slice (some ⟨b, 0, none⟩) 2 2]) (b :: (f ++ f')) := by
  refine Co.at_mk.2 ⟨_, rfl, .inr ⟨b, 0, 2, f ++ f', rfl, by simp, by simp, by simp [maxLen], ?_, rfl⟩⟩
  refine ⟨v0, v1, v2, v3, f, f', ?_, ?_, ?_, ?_, ht, ?_, rfl⟩
  any_goals (rw [cell_of_block hE]; rfl)
  refine ⟨u0, u1, u2, u3, f', [], ?_, ?_, ?_, ?_, hu, by simp only [Co.AtL], by simp⟩ <;> (rw [cell_of_block hE]; rfl)

theorem Fresh.row {B b : Nat} {w : World} {T : TypeId} {C : Array Value} {f : List Nat} (h : Fresh B w f) (hE : w.heap[b]? = some (Obj.cells C T)) (hB : B ≤ b) (hb : ∀ x ∈ f, x < b) : Fresh B w (b :: f) :=
  ⟨List.nodup_cons.2 ⟨fun hm => by have := hb b hm; omega, h.1⟩, fun x hx => by
    rcases List.mem_cons.1 hx with rfl | hx
    · exact ⟨hB, lt_of_block hE, fun o => frozen_of_block hE⟩
    · exact h.2 x hx⟩

theorem put4_above {w : World} {M lo : Nat} (h : M < lo) (x0 x1 x2 x3 : Value) : Above lo w (put4 w M 0 x0 x1 x2 x3) :=
  ((((Above.refl lo w).setCell (p := ⟨M, 0, none⟩) h x0).setCell (p := ⟨M, 0 + 1, none⟩) h x1).setCell (p := ⟨M, 0 + 2, none⟩) h x2).setCell (p := ⟨M, 0 + 3, none⟩) h x3

theorem put4_below {w wF : World} {M : Nat} (h : Below w.heap.size w wF) (hM : w.heap.size ≤ M) (x0 x1 x2 x3 : Value) : Below w.heap.size w (put4 wF M 0 x0 x1 x2 x3) :=
  (((h.setCell (p := ⟨M, 0, none⟩) hM x0).setCell (p := ⟨M, 0 + 1, none⟩) hM x1).setCell (p := ⟨M, 0 + 2, none⟩) hM x2).setCell (p := ⟨M, 0 + 3, none⟩) hM x3

/-- A coercion in new memory, behind the stores into the result's cell. -/
theorem close4 {w wF : World} {M lo : Nat} {t : Co} {v0 v1 v2 v3 : Value} {fp : List Nat} (hat : t.At wF (.agg #[v0, v1, v2, v3]) fp) (hf : Fresh lo wF fp) (hM : w.heap.size ≤ M) (hlo : M < lo) (hbw : Below w.heap.size w wF) :
    MadeC w t (.returned (.agg #[v0, v1, v2, v3])) (put4 wF M 0 v0 v1 v2 v3) :=
  ⟨_, fp, rfl, hat.above (put4_above hlo _ _ _ _) hf.ge, (hf.above (put4_above hlo _ _ _ _) (Nat.le_refl _)).mono (by omega), put4_below hbw hM _ _ _ _⟩

theorem three3 {w wr : World} {o1 o2 o3 : Obj} (h : Below (((w.alloc o1).alloc o2).alloc o3).heap.size (((w.alloc o1).alloc o2).alloc o3) wr) :
    wr.heap[w.heap.size]? = some o1 ∧ wr.heap[w.heap.size + 1]? = some o2 ∧ wr.heap[w.heap.size + 1 + 1]? = some o3 := by
  have h1 : (w.alloc o1).heap.size = w.heap.size + 1 := by simp
  have h2 : ((w.alloc o1).alloc o2).heap.size = w.heap.size + 1 + 1 := by simp
  refine ⟨(h.block _ (by simp; omega)).trans ((Below.heap_alloc _ _ _ (by simp; omega)).trans ((Below.heap_alloc _ _ _ (by simp)).trans (alloc_new _ _))), (h.block _ (by simp)).trans ((Below.heap_alloc _ _ _ (by simp)).trans ?_), (h.block _ (by simp)).trans ?_⟩
  · rw [← h1]; exact alloc_new _ _
  · rw [← h2]; exact alloc_new _ _

theorem shp_small : ∀ {d : Nat} {t : Ty}, shp d t = true → t.cnt + 2 ≤ 2 ^ (d + 1)
  | 0, _, h => by simp [shp] at h
  | d + 1, .mk k ts, h => by
    have hp : 0 < 2 ^ d := Nat.pow_pos (by omega)
    rcases shp_cases h with ⟨rfl, _⟩ | ⟨a, b, rfl, _, ha, hb⟩
    · simp only [Ty.cnt, cntL, List.length_nil, Nat.pow_succ]
      omega
    · have h1 := shp_small ha
      have h2 := shp_small hb
      simp only [Ty.cnt, cntL, List.length_cons, List.length_nil, Nat.pow_succ] at *
      omega

theorem shp_cnt30 {d : Nat} {t : Ty} (h : shp d t = true) (hd : d ≤ 4) : t.cnt ≤ 1048576 := by
  have h1 := shp_small h
  have h2 : 2 ^ (d + 1) ≤ 2 ^ 5 := Nat.pow_le_pow_right (by omega) (by omega)
  omega

theorem shp_wf {d : Nat} {t : Ty} (h : shp d t = true) : wf t := ⟨d, h⟩

theorem shp_leaf {d : Nat} {k : Int} (h : k = 1 ∨ k = 2 ∨ k = 3) : shp (d + 1) (.mk k []) = true := by
  simp [shp, kidsOf, h]

theorem shp_gk {d : Nat} {f : Ty} (h : shp d f = true) : shp d (gk (kindT f)) = true := by
  cases d with
  | zero => simp [shp] at h
  | succ d =>
    obtain ⟨k, ts, rfl⟩ := f.shape
    rcases shp_cases h with ⟨rfl, hk⟩ | ⟨a, b, rfl, hk, ha, _⟩
    · have e : gk k = .mk k [] := by unfold gk; rw [if_neg (by omega)]
      show shp (d + 1) (gk k) = true
      rw [e]
      exact shp_leaf hk
    · cases d with
      | zero => simp [shp] at ha
      | succ d =>
        have e : gk k = .mk k [.mk 1 [], .mk 1 []] := by unfold gk; rw [if_pos hk]
        have h1 : ¬ (k = 1 ∨ k = 2 ∨ k = 3) := by omega
        have h2 : shp (d + 1) (.mk 1 []) = true := shp_leaf (.inl rfl)
        show shp (d + 1 + 1) (gk k) = true
        rw [e, shp]
        simp [kidsOf, h1, hk, h2]

theorem cons_gk {f : Ty} (h : wf f) : cons f (gk (kindT f)) = true ∧ cons (gk (kindT f)) f = true := by
  obtain ⟨k, ts, rfl⟩ := f.shape
  rcases wf_kids h with ⟨hk, rfl⟩ | ⟨hk, a, b, rfl, _, _⟩
  · have : ¬ (k = 4 ∨ k = 5) := by omega
    simp [gk, this, kindT, cons, consL]
  · obtain ⟨ka, la, rfl⟩ := a.shape
    obtain ⟨kb, lb, rfl⟩ := b.shape
    have : ¬ k = 1 := by omega
    simp [gk, hk, kindT, cons, consL, this]

theorem SlAt.none' {w : World} {s : Value} {fp : List Nat} (h : SlAt w [] s fp) : ∃ a cap, s = .slice a 0 cap := by
  rcases h with ⟨_, _, a, cap, rfl⟩ | ⟨b, o, cap, f, _, hp, _⟩
  · exact ⟨a, cap, rfl⟩
  · simp at hp

/-- The depth that is left suffices. -/
def fuelOk (n d : Nat) (f t : Ty) : Prop := 2 * d ≤ n ∨ (2 * d ≤ n + 1 ∧ kindT f = kindT t)

/-- What a cast between two types may be. -/
inductive CstK (d : Nat) : Ty → Ty → Prop
  | id (k : Int) (h : k = 1 ∨ k = 2 ∨ k = 3) : CstK d (.mk k []) (.mk k [])
  | inj (f : Ty) (h : kindT f ≠ 1) : CstK d f (.mk 1 [])
  | prj (t : Ty) (h : kindT t ≠ 1) : CstK d (.mk 1 []) t
  | two (k : Int) (f1 f2 t1 t2 : Ty) (h : k = 4 ∨ k = 5) (hf1 : shp (d - 1) f1 = true) (hf2 : shp (d - 1) f2 = true) (ht1 : shp (d - 1) t1 = true) (ht2 : shp (d - 1) t2 = true) (h1 : cons f1 t1 = true) (h2 : cons f2 t2 = true) (hd : 1 < d) : CstK d (.mk k [f1, f2]) (.mk k [t1, t2])

theorem cons_symm2 : ∀ {t u : Ty}, cons t u = true → cons u t = true := by
  intro t
  refine Ty.ind (P := fun t => ∀ {u : Ty}, cons t u = true → cons u t = true) (fun k ts ih => ?_) t
  intro u h
  obtain ⟨k', us, rfl⟩ := u.shape
  simp only [cons] at *
  by_cases h1 : k = 1 ∨ k' = 1
  · rw [if_pos h1.symm]
  · rw [if_neg h1] at h
    rw [if_neg (fun e => h1 e.symm)]
    by_cases hk : k = k'
    · subst hk
      rw [if_pos rfl] at h ⊢
      have hl : ∀ (ts us : List Ty), (∀ t ∈ ts, ∀ {u : Ty}, cons t u = true → cons u t = true) → consL ts us = true → consL us ts = true := by
        intro ts
        induction ts with
        | nil => intro us _ _; cases us <;> simp [consL]
        | cons t ts ih2 =>
          intro us hh h
          cases us with
          | nil => simp [consL]
          | cons u us =>
            simp only [consL, Bool.and_eq_true] at h ⊢
            exact ⟨hh t (by simp) h.1, ih2 us (fun t ht => hh t (by simp [ht])) h.2⟩
      exact hl ts us ih h
    · rw [if_neg hk] at h
      cases h

theorem cstK {d : Nat} {f t : Ty} (hf : shp d f = true) (ht : shp d t = true) (hc : cons f t = true) : CstK d f t := by
  cases d with
  | zero => simp [shp] at hf
  | succ d =>
    obtain ⟨kf, fs, rfl⟩ := f.shape
    obtain ⟨kt, ts, rfl⟩ := t.shape
    by_cases h1 : kt = 1
    · subst h1
      have e : ts = [] := by
        rcases shp_cases ht with ⟨h, _⟩ | ⟨a, b, _, h, _⟩
        · exact h
        · omega
      subst e
      by_cases h2 : kf = 1
      · subst h2
        have e : fs = [] := by
          rcases shp_cases hf with ⟨h, _⟩ | ⟨a, b, _, h, _⟩
          · exact h
          · omega
        subst e
        exact .id 1 (by omega)
      · exact .inj _ h2
    · by_cases h2 : kf = 1
      · subst h2
        have e : fs = [] := by
          rcases shp_cases hf with ⟨h, _⟩ | ⟨a, b, _, h, _⟩
          · exact h
          · omega
        subst e
        exact .prj _ h1
      · simp only [cons] at hc
        rw [if_neg (by omega)] at hc
        by_cases hk : kf = kt
        · subst hk
          rw [if_pos rfl] at hc
          rcases shp_cases hf with ⟨rfl, hl⟩ | ⟨a, b, rfl, hl, ha, hb⟩
          · rcases shp_cases ht with ⟨rfl, _⟩ | ⟨_, _, _, hl', _⟩
            · exact .id _ hl
            · omega
          · rcases shp_cases ht with ⟨_, hl'⟩ | ⟨a', b', rfl, _, ha', hb'⟩
            · omega
            · simp only [consL, Bool.and_true, Bool.and_eq_true] at hc
              refine .two _ a b a' b' hl (by simpa using ha) (by simpa using hb) (by simpa using ha') (by simpa using hb') hc.1 hc.2 ?_
              cases d with
              | zero => simp [shp] at ha
              | succ d => omega
        · rw [if_neg hk] at hc
          cases hc

theorem cst_id {n : Nat} {k l : Int} : cst (n + 1) (.mk k []) (.mk k []) l = .mk 1 k 0 [] := by simp [cst, kindT, kidsT']
theorem cst_inj {n : Nat} {f : Ty} {l : Int} (h : kindT f ≠ 1) : cst (n + 1) f (.mk 1 []) l = .mk 4 0 0 [cst n f (gk (kindT f)) l] := by
  obtain ⟨k, ts, rfl⟩ := f.shape
  have h' : ¬ k = 1 := h
  simp [cst, kindT, h']
theorem cst_prj {n : Nat} {t : Ty} {l : Int} (h : kindT t ≠ 1) : cst (n + 1) (.mk 1 []) t l = .mk 5 0 l [cst n (gk (kindT t)) t l] := by
  obtain ⟨k, ts, rfl⟩ := t.shape
  have h' : ¬ k = 1 := h
  have h2 : ¬ 1 = k := fun e => h' e.symm
  simp [cst, kindT, h', h2]
theorem cst_two {n : Nat} {k l : Int} {f1 f2 t1 t2 : Ty} (h : k = 4 ∨ k = 5) : cst (n + 1) (.mk k [f1, f2]) (.mk k [t1, t2]) l = if k = 4 then .mk 2 0 0 [cst n t1 f1 (-l), cst n f2 t2 l] else .mk 3 0 0 [cst n f1 t1 l, cst n f2 t2 l] := by
  rcases h with rfl | rfl <;> simp [cst, kindT, kidsT']

theorem shp_up : ∀ {d e : Nat} {t : Ty}, d ≤ e → shp d t = true → shp e t = true
  | 0, _, _, _, h => by simp [shp] at h
  | d + 1, 0, _, hde, _ => by omega
  | d + 1, e + 1, .mk k ts, hde, h => by
    simp only [shp, Bool.and_eq_true, List.all_eq_true] at h ⊢
    exact ⟨h.1, fun t ht => shp_up (by omega) (h.2 t ht)⟩

theorem shp_gk4 {k : Int} (h : 1 ≤ k ∧ k ≤ 5) : shp 4 (gk k) = true := by
  have : k = 1 ∨ k = 2 ∨ k = 3 ∨ k = 4 ∨ k = 5 := by omega
  rcases this with rfl | rfl | rfl | rfl | rfl <;> decide
end Go.Proofs.Ytolhfcpmhhhjpaa

namespace Go.Proofs.Ytolhfcpmhhhjpaa
open Go.RowKit

/-- A chain of injections ends. -/
def tagWf : Nat → Co → Bool
  | 0, _ => false
  | d + 1, .mk k _ _ ts => if k = 4 then (match ts with | [t] => tagWf d t | _ => false) else true

theorem tagWf_shp : ∀ {d : Nat} {t : Co}, shpK d t = true → tagWf d t = true
  | 0, _, h => by simp [shpK] at h
  | d + 1, .mk k g l ts, h => by
    obtain ⟨hn, hs⟩ := shpK_node h
    by_cases h4 : k = 4
    · rcases nodeC_cases hn with ⟨h, _⟩ | ⟨h, _⟩ | ⟨h, _⟩ | ⟨_, _, _, a, rfl, _⟩ | ⟨h, _⟩ | ⟨h, _⟩
      any_goals omega
      simp only [tagWf, if_pos h4]
      exact tagWf_shp (hs a (by simp))
    · simp [tagWf, h4]

end Go.Proofs.Ytolhfcpmhhhjpaa

namespace Go.Proofs.Ytolhfcpmhhhjpaa
open Go.RowKit

def TgiC (d : Nat) : Prop := ∀ (t : Co) (v : Value) (fp : List Nat) (w : World), tagWf d t = true → t.At w v fp →
  Calls Try.prog 88 #[v] w fun e w' => e = .returned (.int .i64 (tagC t)) ∧ Below w.heap.size w w'

set_option maxHeartbeats 1000000 in
theorem tagi_succ (d : Nat) (ih : TgiC d) : TgiC (d + 1) := by
  intro t v fp w hw hat
  have HIH := hid ih
  clear ih
  obtain ⟨k, g, l, ts, rfl⟩ := t.shape
  obtain ⟨s, rfl, hs⟩ := Co.at_mk.1 hat
  by_cases h4 : k = 4
  · subst h4
    simp only [tagWf, if_true] at hw
    match ts, hw, hs with
    | [x], hw, hs =>
    obtain ⟨b, o, cap, k1, g1, l1, n1, a1, c1, f1, rfl, hblt, d0, d1, d2, d3, hx, _, hc⟩ := hs.one
    have hb0 : Below w.heap.size w (w.alloc (Obj.cells #[.int .i64 4, .int .i64 g, .int .i64 l, .slice (some ⟨b, o, none⟩) 1 cap] 30)) := (Below.refl _ _).alloc (Nat.le_refl _) _
    have HT := hid (show tagC (.mk 4 g l [x]) = tagC x by simp [tagC, tagL])
    have HX := hid (hx.below hb0)
    have HW := hid hw
    have e0 := cell_keep d0 hb0
    have e1 := cell_keep d1 hb0
    have e2 := cell_keep d2 hb0
    have e3 := cell_keep d3 hb0
    clear hat hs hx hw
    go_enter Try.func88, Try.ntmps88
    go_wp2_with fail
    refine (HIH.out x _ _ _ HW.out HX.out).mono ?_
    rintro e w1 ⟨rfl, hb1⟩
    generalize hr : tagC x = r
    have HR := hid hr
    clear hr
    go_wp2_with fail
    go_ret
    exact ⟨ret_i (by rw [HT.out, HR.out]), below_trans hb0 hb1⟩
  obtain ⟨a, cap, rfl⟩ := hs.shape
  generalize hn : ts.length = n at *
  have e4 : (k == 4) = false := by simpa using h4
  have hb0 : Below w.heap.size w (w.alloc (Obj.cells #[.int .i64 k, .int .i64 g, .int .i64 l, .slice a n cap] 30)) := (Below.refl _ _).alloc (Nat.le_refl _) _
  clear hat hs hn hw
  by_cases h2 : k = 2
  · subst h2
    have HT := hid (show tagC (.mk 2 g l ts) = 4 by simp [tagC])
    go_enter Try.func88, Try.ntmps88
    go_wp2_with fail
    go_ret
    exact ⟨ret_i HT.out.symm, hb0⟩
  have e2 : (k == 2) = false := by simpa using h2
  by_cases h3 : k = 3
  · subst h3
    have HT := hid (show tagC (.mk 3 g l ts) = 5 by simp [tagC])
    go_enter Try.func88, Try.ntmps88
    go_wp2_with fail
    go_ret
    exact ⟨ret_i HT.out.symm, hb0⟩
  have e3 : (k == 3) = false := by simpa using h3
  have HT := hid (show tagC (.mk k g l ts) = g by simp [tagC, h2, h3, h4])
  go_enter Try.func88, Try.ntmps88
  go_wp2_with fail
  go_ret
  exact ⟨ret_i HT.out.symm, hb0⟩

theorem tagi_any : ∀ d, TgiC d
  | 0 => fun t v fp w h => by simp [tagWf] at h
  | d + 1 => tagi_succ d (tagi_any d)
end Go.Proofs.Ytolhfcpmhhhjpaa

namespace Go.Proofs.Ytolhfcpmhhhjpaa
open Go.RowKit

/-- A row's cells, four by four, read as trees. -/
def AtCs (w : World) : List Co → List Value → List Nat → Prop
  | [], xs, fp => xs = [] ∧ fp = []
  | t :: ts, xs, fp => ∃ x y z u r f g, xs = x :: y :: z :: u :: r ∧ fp = f ++ g ∧ t.At w (.agg #[x, y, z, u]) f ∧ AtCs w ts r g

theorem AtCs.snoc {w : World} : ∀ {ts : List Co} {xs : List Value} {fp : List Nat} {t : Co} {x y z u : Value} {f : List Nat}, AtCs w ts xs fp → t.At w (.agg #[x, y, z, u]) f → AtCs w (ts ++ [t]) (xs ++ [x, y, z, u]) (fp ++ f)
  | [], _, _, t, x, y, z, u, f, ⟨rfl, rfl⟩, ht => ⟨x, y, z, u, [], f, [], rfl, by simp, ht, rfl, rfl⟩
  | _ :: _, _, _, t, x, y, z, u, f, ⟨x0, y0, z0, u0, r, f0, g, rfl, rfl, h0, h⟩, ht => ⟨x0, y0, z0, u0, r ++ [x, y, z, u], f0, g ++ f, by simp, by simp, h0, AtCs.snoc h ht⟩

theorem AtCs.congr {w w' : World} : ∀ {ts : List Co} {xs : List Value} {fp : List Nat}, AtCs w ts xs fp → (∀ b ∈ fp, ∀ o, w'.cell? ⟨b, o, none⟩ = w.cell? ⟨b, o, none⟩) → AtCs w' ts xs fp
  | [], _, _, h, _ => h
  | _ :: _, _, _, ⟨x0, y0, z0, u0, r, f0, g, rfl, rfl, h0, h⟩, hk => ⟨x0, y0, z0, u0, r, f0, g, rfl, rfl, h0.congr (fun b hb => hk b (by simp [hb])), AtCs.congr h (fun b hb => hk b (by simp [hb]))⟩

theorem AtCs.lt {w : World} : ∀ {ts : List Co} {xs : List Value} {fp : List Nat}, AtCs w ts xs fp → ∀ b ∈ fp, b < w.heap.size
  | [], _, _, ⟨_, rfl⟩ => by simp
  | _ :: _, _, _, ⟨x0, y0, z0, u0, r, f0, g, rfl, rfl, h0, h⟩ => fun b hb => by
    rcases List.mem_append.1 hb with hb | hb
    · exact h0.lt b hb
    · exact AtCs.lt h b hb

theorem AtCs.atL {w : World} {b : Nat} : ∀ {ts : List Co} {xs : List Value} {fp : List Nat} {o : Nat}, AtCs w ts xs fp → (∀ j u, xs[j]? = some u → w.cell? ⟨b, o + j, none⟩ = some u) → Co.AtL w ts b o fp
  | [], _, _, o, ⟨_, rfl⟩, _ => by simp only [Co.AtL]
  | _ :: _, _, _, o, ⟨x0, y0, z0, u0, r, f0, g, rfl, rfl, h0, h⟩, hc =>
    ⟨x0, y0, z0, u0, f0, g, by simpa using hc 0 x0 rfl, by simpa using hc 1 y0 rfl, by simpa using hc 2 z0 rfl, by simpa using hc 3 u0 rfl, h0, AtCs.atL h (fun j u hj => by
      have := hc (j + 4) u (by simpa using hj)
      rw [show o + 4 + j = o + (j + 4) by omega]
      exact this), rfl⟩

/-- The slice v of the call's own, from block B on, reads as the trees ds. -/
def GrowC (B : Nat) (ds : List Co) (v : Value) (fp : List Nat) (w : World) : Prop :=
  ∃ xs, w.ownsRow B 30 4 v ds.length xs ∧ AtCs w ds xs fp ∧ Fresh B w fp ∧ ∀ b, v.ownBlock = some b → b ∉ fp

theorem GrowC.zero (B : Nat) (w : World) : GrowC B [] (.slice none 0 0) [] w :=
  ⟨[], World.ownsRow_nil w _ _ _, ⟨rfl, rfl⟩, Fresh.nil _ _, by simp⟩

theorem GrowC.below {B : Nat} {ds : List Co} {v : Value} {fp : List Nat} {w w' : World} (h : GrowC B ds v fp w) (hb : Below w.heap.size w w') : GrowC B ds v fp w' := by
  obtain ⟨xs, ho, ha, hf, hn⟩ := h
  refine ⟨xs, ho.kept (grown_of_below hb none) ?_, ha.congr (fun b hm o => hb.cell (p := ⟨b, o, none⟩) (ha.lt b hm)), hf.below hb, hn⟩
  cases v.ownBlock with
  | none => exact .inl rfl
  | some b => exact .inr (by simp)

theorem GrowC.own {B : Nat} {ds : List Co} {v : Value} {fp : List Nat} {w : World} (h : GrowC B ds v fp w) : ∃ xs, w.ownsRow B 30 4 v ds.length xs := ⟨_, h.choose_spec.1⟩

theorem GrowC.setCell {B : Nat} {ds : List Co} {v : Value} {fp : List Nat} {w : World} (h : GrowC B ds v fp w) {p : Addr} (hp : p.block < B) (u : Value) : GrowC B ds v fp (w.setCell p u) := by
  obtain ⟨xs, ho, ha, hf, hn⟩ := h
  have hne : ∀ b ∈ fp, b ≠ p.block := fun b hb e => by have := hf.ge b hb; omega
  exact ⟨xs, ownsRow_setCell_below ho hp u, ha.congr (fun b hm o => cell_setCell_ne w p u b o (hne b hm)), hf.setCell hne u, hn⟩

/-- One more element: the call that made it, the one-element slice of the append, the append. -/
theorem GrowC.step {B : Nat} {ds : List Co} {v : Value} {fp f : List Nat} {xs : List Value} {w w1 w2 w3 : World} {t : Co} {x y z u : Value} {g cap n : Nat}
    (ha : AtCs w1 ds xs fp) (hf : Fresh B w1 fp) (hn : ∀ b, v.ownBlock = some b → b ∉ fp) (hfp : ∀ b ∈ fp, b < w.heap.size) (hvb : ∀ b, v.ownBlock = some b → b < w.heap.size)
    (hB : B ≤ w.heap.size) (ht : t.At w1 (.agg #[x, y, z, u]) f) (hft : Fresh w.heap.size w1 f) (h2 : Below w1.heap.size w1 w2) (hg : w2.grownBy w3 v.ownBlock) (h3 : w3.ownsRow B 30 4 (.slice (some ⟨g, 0, none⟩) n cap) n (xs ++ [x, y, z, u]))
    (hnn : n = ds.length + 1) (hat : v.ownBlock = some g ∨ g = w2.heap.size) : GrowC B (ds ++ [t]) (.slice (some ⟨g, 0, none⟩) n cap) (fp ++ f) w3 := by
  subst hnn
  have hlt1 : ∀ b ∈ fp ++ f, b < w1.heap.size := fun b hb => by
    rcases List.mem_append.1 hb with hb | hb
    · exact (hf.2 b hb).2.1
    · exact (hft.2 b hb).2.1
  have hne : ∀ b ∈ fp ++ f, some b ≠ v.ownBlock := fun b hb e => by
    rcases List.mem_append.1 hb with hb | hb
    · exact hn b e.symm hb
    · have := hft.ge b hb
      have := hvb b e.symm
      omega
  have hk : ∀ b ∈ fp ++ f, w3.heap[b]? = w1.heap[b]? := fun b hb => by
    rw [hg.block b (Nat.lt_of_lt_of_le (hlt1 b hb) h2.size) (hne b hb), h2.block b (hlt1 b hb)]
  have hc : ∀ b ∈ fp ++ f, ∀ o, w3.cell? ⟨b, o, none⟩ = w1.cell? ⟨b, o, none⟩ := fun b hb o => World.cell?_of_block (w := w1) (a := ⟨b, o, none⟩) (hk b hb)
  have hz : ∀ b ∈ fp ++ f, ∀ o, w3.frozen? ⟨b, o, none⟩ = w1.frozen? ⟨b, o, none⟩ := fun b hb o => World.frozen?_of_block (w := w1) (a := ⟨b, o, none⟩) (hk b hb)
  refine ⟨xs ++ [x, y, z, u], by simpa using h3, (ha.snoc ht).congr hc, ⟨List.nodup_append.2 ⟨hf.1, hft.1, fun a ha b hb e => ?_⟩, fun b hb => ?_⟩, fun b hb hm => ?_⟩
  · have := hfp a ha
    have := hft.ge b hb
    omega
  · refine ⟨?_, Nat.lt_of_lt_of_le (hlt1 b hb) (Nat.le_trans h2.size hg.size), fun o => ?_⟩
    · rcases List.mem_append.1 hb with hb | hb
      · exact hf.ge b hb
      · exact Nat.le_trans hB (hft.ge b hb)
    · rw [hz b hb o]
      rcases List.mem_append.1 hb with hb | hb
      · exact (hf.2 b hb).2.2 o
      · exact (hft.2 b hb).2.2 o
  · obtain rfl : g = b := by simpa [Value.ownBlock] using hb
    rcases hat with hat | hat
    · exact hne g hm hat.symm
    · have := hlt1 g hm
      have := h2.size
      omega

theorem GrowC.done {B : Nat} {ds : List Co} {v : Value} {fp : List Nat} {w : World} (h : GrowC B ds v fp w) (hm : ds.length ≤ maxLen) : ∃ fp', CSl w ds v fp' ∧ Fresh B w fp' := by
  obtain ⟨xs, ho, ha, hf, hn⟩ := h
  rcases ho.2 with ⟨rfl, h0⟩ | ⟨g, cap, cur, rfl, hb, hg, hc, hmx, hsz, hx⟩
  · exact ⟨[], .inl ⟨List.length_eq_zero_iff.1 h0, rfl, none, 0, rfl⟩, Fresh.nil _ _⟩
  · by_cases h0 : ds.length = 0
    · exact ⟨[], .inl ⟨List.length_eq_zero_iff.1 h0, rfl, _, _, by rw [h0]⟩, Fresh.nil _ _⟩
    · have hcell : ∀ j u, xs[j]? = some u → w.cell? ⟨g, 0 + j, none⟩ = some u := fun j u hj => by
        rw [Nat.zero_add, cell_of_block hg, ← hj, ← hx, List.getElem?_take]
        have : j < xs.length := (List.getElem?_eq_some_iff.1 hj).1
        rw [if_pos (by rw [ho.1] at this; exact this)]
        simp
      refine ⟨g :: fp, .inr ⟨g, 0, cap, fp, rfl, by omega, hc, hm, ha.atL hcell, rfl⟩, List.nodup_cons.2 ⟨hn g rfl, hf.1⟩, fun b hb' => ?_⟩
      rcases List.mem_cons.1 hb' with rfl | hb'
      · exact ⟨hb, lt_of_block hg, fun o => frozen_of_block hg⟩
      · exact hf.2 b hb'

theorem GrowC.shape {B : Nat} {ds : List Co} {v : Value} {fp : List Nat} {w : World} (h : GrowC B ds v fp w) : ∃ a cap, v = .slice a ds.length cap := by
  obtain ⟨xs, ho, _⟩ := h
  rcases ho.2 with ⟨rfl, h0⟩ | ⟨g, cap, cur, rfl, _⟩
  · exact ⟨none, 0, by rw [h0]⟩
  · exact ⟨_, _, rfl⟩

theorem GrowC.block {B : Nat} {ds : List Co} {v : Value} {fp : List Nat} {w : World} (h : GrowC B ds v fp w) : (∀ b ∈ fp, b < w.heap.size) ∧ ∀ b, v.ownBlock = some b → b < w.heap.size := by
  obtain ⟨xs, ho, _, hf, _⟩ := h
  exact ⟨fun b hb => (hf.2 b hb).2.1, fun b hb => (ho.lt b hb).2⟩

end Go.Proofs.Ytolhfcpmhhhjpaa

namespace Go.Proofs.Ytolhfcpmhhhjpaa
open Go.RowKit

def one1 (ts : List Co) (f : Co → Option Co) : Option Co :=
  match ts with
  | [a] => f a
  | _ => none

def two2 (ts us : List Co) (f : Co → Co → Co → Co → Option Co) : Option Co :=
  match ts, us with
  | [a1, a2], [b1, b2] => f a1 a2 b1 b2
  | _, _ => none

def bothC (k : Int) (x y : Option Co) : Option Co :=
  match x, y with
  | some x, some y => some (.mk k 0 0 [x, y])
  | _, _ => none

@[simp] theorem one1_one (a : Co) (f : Co → Option Co) : one1 [a] f = f a := rfl
@[simp] theorem two2_two (a1 a2 b1 b2 : Co) (f : Co → Co → Co → Co → Option Co) : two2 [a1, a2] [b1, b2] f = f a1 a2 b1 b2 := rfl

/-- One step of composition, off composition of less deep ones. -/
def cmpN (r : Co → Co → Option Co) : Co → Co → Option Co
  | .mk k g l ts, .mk k' g' l' us =>
    if k = 1 ∧ g = 1 then (if k' = 5 ∨ k' = 1 ∧ g' = 1 then some (.mk k' g' l' us) else none)
    else if k = 5 then one1 ts fun a => (r a (.mk k' g' l' us)).map fun c => .mk 5 0 l [c]
    else if k = 6 then some (.mk k g l ts)
    else if k = 4 then
      (if k' = 5 then one1 ts fun a => one1 us fun b => if tagC a = tagC b then r a b else some (.mk 6 (tagC a) l' [])
      else if k' = 1 ∧ g' = 1 then some (.mk k g l ts) else none)
    else if k' = 6 then (if tagC (.mk k g l ts) = g' then some (.mk k' g' l' us) else none)
    else if k' = 4 then one1 us fun b => (r (.mk k g l ts) b).map fun c => .mk 4 0 0 [c]
    else if k = k' ∧ g = g' then
      (if k = 1 then some (.mk k g l ts)
      else two2 ts us fun a1 a2 b1 b2 => bothC k (if k = 2 then r b1 a1 else r a1 b1) (r a2 b2))
    else none

/-- The document's composition, by depth. -/
def cmpo : Nat → Co → Co → Option Co
  | 0, _, _ => none
  | n + 1, a, b => cmpN (cmpo n) a b

end Go.Proofs.Ytolhfcpmhhhjpaa

namespace Go.Proofs.Ytolhfcpmhhhjpaa
open Go.RowKit

/-- A coercion that neither leads through the unknown type nor fails. -/
def notUnk (a : Co) : Prop := match a with | .mk k g _ _ => k ≠ 4 ∧ k ≠ 5 ∧ k ≠ 6 ∧ ¬ (k = 1 ∧ g = 1)
def notInj (b : Co) : Prop := match b with | .mk k _ _ _ => k ≠ 4 ∧ k ≠ 6

end Go.Proofs.Ytolhfcpmhhhjpaa

namespace Go.Proofs.Ytolhfcpmhhhjpaa
open Go.RowKit

theorem isLb_rng {l : Int} (h : isLb l = true) : -99 ≤ l ∧ l ≤ 99 := by
  simp only [isLb, Bool.and_eq_true, decide_eq_true_eq] at h
  exact ⟨h.1.2, h.2⟩


theorem cst_cnt : ∀ (n : Nat) (f t : Ty) (l : Int), (cst n f t l).cnt + 2 ≤ 2 ^ (n + 1)
  | 0, _, _, _ => by simp [cst, Co.cnt, ccntL]
  | n + 1, f, t, l => by
    have hp : 0 < 2 ^ n := Nat.pow_pos (by omega)
    have h1 := fun f t l => cst_cnt n f t l
    simp only [cst]
    simp only [Nat.pow_succ] at *
    split
    · simp only [Co.cnt, ccntL, List.length_nil]; omega
    · split
      · have := h1 f (gk (kindT f)) l
        simp only [Co.cnt, ccntL, List.length_cons, List.length_nil]; omega
      · split
        · have := h1 (gk (kindT t)) t l
          simp only [Co.cnt, ccntL, List.length_cons, List.length_nil]; omega
        · split
          · rename_i f1 f2 t1 t2 _ _
            have a1 := h1 t1 f1 (-l)
            have a2 := h1 f2 t2 l
            have a3 := h1 f1 t1 l
            split <;> (simp only [Co.cnt, ccntL, List.length_cons, List.length_nil]; omega)
          · simp only [Co.cnt, ccntL, List.length_nil]; omega


theorem isLb_neg {l : Int} (h : isLb l = true) : isLb (-l) = true := by
  simp only [isLb, Bool.and_eq_true, decide_eq_true_eq, bne_iff_ne, ne_eq] at *
  omega

theorem plain_notUnk {c : Co} (h : plainC c = true) : unkC c = false := by
  obtain ⟨k, g, l, ts, rfl⟩ := c.shape
  simp only [plainC, unkC, Bool.or_eq_true, Bool.and_eq_true, beq_iff_eq, bne_iff_ne, ne_eq] at *
  rw [Bool.eq_false_iff]
  intro h2
  simp only [Bool.or_eq_true, Bool.and_eq_true, beq_iff_eq] at h2
  omega

theorem kindT_gk (k : Int) : kindT (gk k) = k := rfl

/-- The coercion of a cast, at every level. -/
theorem shpK_cst : ∀ (n : Nat) (f t : Ty) (l : Int) (d : Nat), fuelOk n d f t → shp d f = true → shp d t = true → cons f t = true → isLb l = true → shpK n (cst n f t l) = true ∧ (kindT f = kindT t → kindT f ≠ 1 → plainC (cst n f t l) = true) := by
  intro n
  induction n with
  | zero =>
    intro f t l d hn hf ht
    exfalso
    cases d with
    | zero => simp [shp] at hf
    | succ d => rcases hn with hn | ⟨hn, _⟩ <;> omega
  | succ n ih =>
    intro f t l d hn hf ht hc hl
    cases cstK hf ht hc with
    | id k h =>
      rw [cst_id]
      refine ⟨?_, fun _ h1 => ?_⟩
      · rcases h with rfl | rfl | rfl <;> rfl
      · rcases h with rfl | rfl | rfl
        · exact absurd rfl h1
        · rfl
        · rfl
    | inj _ h =>
      rw [cst_inj h]
      have hn2 : 2 * d ≤ n + 1 := by
        rcases hn with hn | ⟨_, hk⟩
        · exact hn
        · exact absurd hk h
      obtain ⟨h1, h2⟩ := ih f (gk (kindT f)) l d (.inr ⟨hn2, (kindT_gk _).symm⟩) hf (shp_gk hf) (cons_gk (shp_wf hf)).1 hl
      refine ⟨?_, fun e => absurd e h⟩
      have h3 := h2 (kindT_gk _).symm h
      simp [shpK, nodeC, h1, h3]
    | prj _ h =>
      rw [cst_prj h]
      have hn2 : 2 * d ≤ n + 1 := by
        rcases hn with hn | ⟨_, hk⟩
        · exact hn
        · exact absurd hk.symm h
      obtain ⟨h1, h2⟩ := ih (gk (kindT t)) t l d (.inr ⟨hn2, kindT_gk _⟩) (shp_gk ht) ht (cons_gk (shp_wf ht)).2 hl
      refine ⟨?_, fun e h0 => absurd rfl h0⟩
      have h3 := plain_notUnk (h2 (kindT_gk _) (by rw [kindT_gk _]; exact h))
      simp [shpK, nodeC, h1, h3, hl]
    | two k f1 f2 t1 t2 h a1 a2 b1 b2 e1 e2 hd1 =>
      have h2 : 2 * (d - 1) ≤ n := by rcases hn with hn | ⟨hn, _⟩ <;> omega
      rw [cst_two h]
      have g2 := (ih f2 t2 l (d - 1) (.inl h2) a2 b2 e2 hl).1
      rcases h with rfl | rfl
      · have g1 := (ih t1 f1 (-l) (d - 1) (.inl h2) b1 a1 (cons_symm2 e1) (isLb_neg hl)).1
        simp [shpK, nodeC, g1, g2, plainC]
      · have g1 := (ih f1 t1 l (d - 1) (.inl h2) a1 b1 e1 hl).1
        simp [shpK, nodeC, g1, g2, plainC]
end Go.Proofs.Ytolhfcpmhhhjpaa

namespace Go.Proofs.Ytolhfcpmhhhjpaa
open Go.RowKit

theorem blk {w w' : World} {M : Nat} {o : Obj} (h : w.heap[M]? = some o) (hb : Below w.heap.size w w') : w'.heap[M]? = some o := (hb.block _ (lt_of_block h)).trans h

/-- From w to w' only new blocks, block M and v's own block have been written. -/
def Lr (M : Nat) (w w' : World) (v v' : Value) : Prop := (w'.os = w.os ∧ w'.tape = w.tape ∧ w'.output = w.output ∧ w.heap.size ≤ w'.heap.size) ∧ (∀ k, k < w.heap.size → k ≠ M → some k ≠ v.ownBlock → w'.heap[k]? = w.heap[k]?) ∧ (v'.ownBlock = v.ownBlock ∨ ∃ b, v'.ownBlock = some b ∧ w.heap.size ≤ b)

theorem Lr.of_below {M : Nat} {w w' : World} (h : Below w.heap.size w w') (v : Value) : Lr M w w' v v := ⟨⟨h.os, h.tape, h.output, h.size⟩, fun k hk _ _ => h.block k hk, .inl rfl⟩

theorem Lr.trans {M : Nat} {a b c : World} {x y z : Value} (h : Lr M a b x y) (k : Lr M b c y z) : Lr M a c x z := by
  obtain ⟨⟨h1, h2, h3, h4⟩, h5, h6⟩ := h
  obtain ⟨⟨k1, k2, k3, k4⟩, k5, k6⟩ := k
  refine ⟨⟨k1.trans h1, k2.trans h2, k3.trans h3, Nat.le_trans h4 k4⟩, fun i hi hM hn => ?_, ?_⟩
  · rw [k5 i (Nat.lt_of_lt_of_le hi h4) hM ?_, h5 i hi hM hn]
    rcases h6 with h6 | ⟨b, h6, hb⟩
    · rw [h6]; exact hn
    · rw [h6]
      intro e
      have := Option.some.inj e
      omega
  · rcases k6 with k6 | ⟨b, k6, hb⟩
    · rcases h6 with h6 | ⟨b, h6, hb⟩
      · exact .inl (k6.trans h6)
      · exact .inr ⟨b, k6.trans h6, hb⟩
    · exact .inr ⟨b, k6, Nat.le_trans h4 hb⟩

theorem Lr.heap {M : Nat} {w w' : World} {v v' : Value} (h : Lr M w w' v v') {k : Nat} {o : Obj} (hk : w.heap[k]? = some o) (hM : k ≠ M) (hn : some k ≠ v.ownBlock) : w'.heap[k]? = some o := (h.2.1 k (lt_of_block hk) hM hn).trans hk

theorem Lr.below {M B : Nat} {w w' : World} {v v' : Value} (h : Lr M w w' v v') (hMB : M < B) (hB : B ≤ w.heap.size) (ho : ∀ b, v.ownBlock = some b → B ≤ b) : Below M w w' :=
  ⟨h.1.1, h.1.2.1, h.1.2.2.1, h.1.2.2.2, fun k hk => h.2.1 k (by omega) (by omega) (fun e => by have := ho k e.symm; omega)⟩

end Go.Proofs.Ytolhfcpmhhhjpaa

namespace Go.Proofs.Ytolhfcpmhhhjpaa
open Go.RowKit

section
variable {α : Type} (step : α → Co → α)
mutual
/-- What the visits of a coercion's nodes make of a state. -/
def ccN : α → Co → α
  | a, .mk k g l ts => ccL (step a (.mk k g l ts)) ts
def ccL : α → List Co → α
  | a, [] => a
  | a, t :: ts => ccL (ccN a t) ts
end

theorem ccL_take : ∀ (ts : List Co) (a : α) (j : Nat) (h : j < ts.length), ccL step a (ts.take (j + 1)) = ccN step (ccL step a (ts.take j)) ts[j]
  | t :: ts, a, 0, _ => by simp [ccL]
  | t :: ts, a, j + 1, h => by
    simp only [List.take_succ_cons, ccL, List.getElem_cons_succ]
    exact ccL_take ts _ j (by simpa using h)
end

section
variable {α : Type}
mutual
theorem ccN_len (step : α → Co → α) (len : α → Nat) (hlen : ∀ a t, len (step a t) ≤ len a + 2) : ∀ (t : Co) (a : α), len (ccN step a t) ≤ len a + 2 * (t.cnt + 1)
  | .mk k g l ts, a => by
    have h := ccL_len step len hlen ts (step a (.mk k g l ts))
    have h2 := hlen a (.mk k g l ts)
    simp only [ccN, Co.cnt]
    omega
theorem ccL_len (step : α → Co → α) (len : α → Nat) (hlen : ∀ a t, len (step a t) ≤ len a + 2) : ∀ (ts : List Co) (a : α), len (ccL step a ts) ≤ len a + 2 * (ts.length + ccntL ts)
  | [], a => by simp [ccL, ccntL]
  | t :: ts, a => by
    have h1 := ccN_len step len hlen t a
    have h2 := ccL_len step len hlen ts (ccN step a t)
    simp only [ccL, List.length_cons, ccntL]
    omega
end

theorem ccL_take_len (step : α → Co → α) (len : α → Nat) (hlen : ∀ a t, len (step a t) ≤ len a + 2) (ts : List Co) (a : α) (j : Nat) (h : j < ts.length) : len (ccL step a (ts.take j)) + 2 * (ts[j].cnt + 1) ≤ len a + 2 * (ts.length + ccntL ts) := by
  induction ts generalizing a j with
  | nil => simp at h
  | cons t ts ih =>
    have h1 := ccN_len step len hlen t a
    cases j with
    | zero => simp only [List.take_zero, ccL, List.getElem_cons_zero, List.length_cons, ccntL]; omega
    | succ j =>
      have := ih (ccN step a t) j (by simpa using h)
      simp only [List.take_succ_cons, ccL, List.getElem_cons_succ, List.length_cons, ccntL]
      omega
end

/-- What a visit of a node says. -/
def CVis (fc : FuncId) (bs : Array Value) (M B : Nat) {α : Type} (St : α → Value → World → Prop) (len : α → Nat) (step : α → Co → α) : Prop :=
  ∀ (a : α) (v : Value) k g l ts a3 c3 fp w, St a v w → Co.At w (.mk k g l ts) (.agg #[.int .i64 k, .int .i64 g, .int .i64 l, .slice a3 ts.length c3]) fp → (∀ x ∈ fp, x < M) → B ≤ w.heap.size → len a ≤ 4194300 →
    Calls Try.prog fc (#[(.agg #[.int .i64 k, .int .i64 g, .int .i64 l, .slice a3 ts.length c3])] ++ bs) w (fun e w' => (∃ r, e = .returned r) ∧ ∃ v', St (step a (.mk k g l ts)) v' w' ∧ Lr M w w' v v')

def CEcC (fc : FuncId) (bs : Array Value) (M B : Nat) {α : Type} (St : α → Value → World → Prop) (len : α → Nat) (step : α → Co → α) (t : Co) : Prop :=
  ∀ (a : α) (v : Value) (tv : Value) (fp : List Nat) (w : World), St a v w → t.At w tv fp → (∀ x ∈ fp, x < M) → B ≤ w.heap.size → t.cnt ≤ 1048576 → len a + 2 * (t.cnt + 1) ≤ 4194300 →
    Calls Try.prog 46 #[tv, .func (.func fc) #[] bs] w (fun e w' => (∃ r, e = .returned r) ∧ ∃ v', St (ccN step a t) v' w' ∧ Lr M w w' v v')

set_option linter.unusedSimpArgs false in
set_option maxRecDepth 100000 in
set_option maxHeartbeats 4000000 in
theorem eachCo_of (fc : FuncId) (bs : Array Value) (M B : Nat) {α : Type} (St : α → Value → World → Prop) (len : α → Nat) (step : α → Co → α) (hfc : CallOkT fc) (hMB : M < B) (hlen : ∀ a t, len (step a t) ≤ len a + 2)
    (hSt : ∀ a v w w', St a v w → Below w.heap.size w w' → St a v w') (hown : ∀ a v w, St a v w → ∀ b, v.ownBlock = some b → B ≤ b ∧ b < w.heap.size) (hV : CVis fc bs M B St len step)
    (k g l : Int) (ts : List Co) (ih : ∀ t ∈ ts, CEcC fc bs M B St len step t) : CEcC fc bs M B St len step (.mk k g l ts) := by
  intro a v tv fp w hL hat hlt hBw hsz hln
  have HIH := hid ih
  have HV := hid hV
  have HST := hid hSt
  clear ih hV hSt
  have hat0 := hat
  obtain ⟨s, rfl, hs⟩ := Co.at_mk.1 hat
  have hb00 : ∀ o : Obj, Below w.heap.size w (w.alloc o) := fun o => (Below.refl _ _).alloc (Nat.le_refl _) _
  obtain ⟨a3, c3, hss, hc, hm, hget⟩ := hs.open
  subst hss
  have hb0 : Below w.heap.size w (w.alloc (Obj.cells #[.int .i64 k, .int .i64 g, .int .i64 l, .slice a3 ts.length c3] 30)) := hb00 _
  have hblk : ∀ b o, a3 = some ⟨b, o, none⟩ → 0 < ts.length → b ∈ fp := fun b o e hp => by
    rcases hs with ⟨h0, _⟩ | ⟨b', o', cap', f, e', _, _, _, _, rfl⟩
    · rw [h0] at hp; simp at hp
    · rw [e] at e'
      cases e'
      simp
  have HBK := hid hblk
  have HG := hid hget
  have HS3 := hid hlt
  have HSZ := hid (show ts.length + ccntL ts ≤ 1048576 by simp only [Co.cnt] at hsz; omega)
  have HOWN := hid (hown a v w hL)
  have HMB := hid hMB
  have hMo : some w.heap.size ≠ v.ownBlock := fun e => by have := (HOWN.out _ e.symm).2; omega
  have HMO := hid hMo
  have HLE := hid hlen
  have HFC := hid hfc
  have HEC := hid (show ccN step a (.mk k g l ts) = ccL step (step a (.mk k g l ts)) ts by rw [ccN])
  have HLN := hid (show len (step a (.mk k g l ts)) + 2 * (ts.length + ccntL ts) ≤ 4194300 by
    have := hlen a (.mk k g l ts)
    simp only [Co.cnt] at hln
    omega)
  have hla : len a ≤ 4194300 := by omega
  obtain ⟨x0, x1, x2, x3⟩ := box4 (Below.refl ((w.alloc (Obj.cells #[.int .i64 k, .int .i64 g, .int .i64 l, .slice a3 ts.length c3] 30))).heap.size (w.alloc (Obj.cells #[.int .i64 k, .int .i64 g, .int .i64 l, .slice a3 ts.length c3] 30)))
  have hvis := HV.out a v k g l ts a3 c3 _ (w.alloc (Obj.cells #[.int .i64 k, .int .i64 g, .int .i64 l, .slice a3 ts.length c3] 30)) (HST.out _ _ _ _ hL hb0) (hat0.below hb0) hlt (Nat.le_trans hBw hb0.size) hla
  have HVIS := hid hvis
  generalize step a (.mk k g l ts) = b0 at *
  rw [HEC.out]
  have hfc := HFC.out
  unfold CallOkT at hfc
  clear hvis hla hL hat0 hlt HEC HV hget hsz hblk hs hMo hat hln hlen hMB hown hb00
  go_enter Try.func46, Try.ntmps46
  go_wp2_with fail
  refine HVIS.out.mono ?_
  rintro e w2 ⟨⟨r2, rfl⟩, v2, hL2, hr2⟩
  have HL2 := hid hL2
  have HR2 := hid hr2
  have hbx := hr2.heap (k := w.heap.size) (alloc_new _ _) (by have := HMB.out; omega) HMO.out
  clear hL2 hr2 x0 x1 x2 x3 hfc
  have x0 : w2.cell? ⟨w.heap.size, 0, none⟩ = some (.int .i64 k) := by rw [cell_of_block hbx]; rfl
  have x1 : w2.cell? ⟨w.heap.size, 1, none⟩ = some (.int .i64 g) := by rw [cell_of_block hbx]; rfl
  have x2 : w2.cell? ⟨w.heap.size, 2, none⟩ = some (.int .i64 l) := by rw [cell_of_block hbx]; rfl
  have x3 : w2.cell? ⟨w.heap.size, 3, none⟩ = some (.slice a3 ts.length c3) := by rw [cell_of_block hbx]; rfl
  clear hbx
  go_wp2_with fail
  go_loopw [12] (fun i wr => ∃ (j : Nat) (v' : Value), j ≤ ts.length ∧ i = .int .i64 j ∧ St (ccL step b0 (ts.take j)) v' wr ∧ Lr M (w.alloc (Obj.cells #[.int .i64 k, .int .i64 g, .int .i64 l, .slice a3 ts.length c3] 30)) wr v v') (fun i _ => ts.length - (intOf i).toNat)
  case atStart => exact ⟨0, _, Nat.zero_le _, rfl, by simpa [ccL] using HL2.out, HR2.out⟩
  case round =>
    obtain ⟨j, v', hj, rfl, hL4, hr4⟩ := hrel
    have hbl := hr4.below HMB.out (Nat.le_trans hBw hb0.size) (fun b hb => (HOWN.out b hb).1)
    have hBr : B ≤ wr.heap.size := Nat.le_trans (Nat.le_trans hBw hb0.size) hr4.1.2.2.2
    have HL4 := hid hL4
    have HR4 := hid hr4
    have HBL := hid hbl
    clear hL4 hr4 hbl
    by_cases hlk : j < ts.length
    · obtain ⟨b, o, q0, q1, q2, q3, q4, q5, g1, hab, hblt, e0, e1, e2, e3, hat, hf⟩ := HG.out j hlk
      have hbM : b < M := HS3.out b (HBK.out b o hab (by omega))
      subst hab
      have hgM : ∀ x ∈ g1, x < M := fun x hx => HS3.out x (hf x hx)
      have hat' : Co.At wr ts[j] _ g1 := (hat.below hb0).congr fun x hx o' => HBL.out.cell (p := ⟨x, o', none⟩) (hgM x hx)
      replace e0 := (HBL.out.cell (p := ⟨b, o + j * 4, none⟩) hbM).trans (cell_keep e0 hb0)
      replace e1 := (HBL.out.cell (p := ⟨b, o + j * 4 + 1, none⟩) hbM).trans (cell_keep e1 hb0)
      replace e2 := (HBL.out.cell (p := ⟨b, o + j * 4 + 2, none⟩) hbM).trans (cell_keep e2 hb0)
      replace e3 := (HBL.out.cell (p := ⟨b, o + j * 4 + 3, none⟩) hbM).trans (cell_keep e3 hb0)
      have HTK := hid (ccL_take step ts b0 j hlk)
      have hl2 : len (ccL step b0 (ts.take j)) + 2 * (ts[j].cnt + 1) ≤ 4194300 := Nat.le_trans (ccL_take_len step len HLE.out ts b0 j hlk) HLN.out
      have hszj : ts[j].cnt ≤ 1048576 := by have := HSZ.out; have := ccnt_mem (List.getElem_mem hlk); omega
      have hkb : ∀ oo : Obj, Below wr.heap.size wr (wr.alloc oo) := fun _ => (Below.refl _ _).alloc (Nat.le_refl _) _
      have HGM := hid hgM
      have HL2' := hid hl2
      clear hat hf hgM hl2
      go_wp2_with fail
      refine (HIH.out _ (List.getElem_mem hlk) _ v' _ g1 _ (HST.out _ _ _ _ HL4.out (hkb _)) (hat'.below (hkb _)) HGM.out (Nat.le_trans hBr (hkb _).size) hszj HL2'.out).mono ?_
      rintro e w4 ⟨⟨r4, rfl⟩, v5, hL5, hr5⟩
      have HL5 := hid hL5
      have HR5 := hid ((HR4.out.trans (Lr.of_below (hkb _) v')).trans hr5)
      clear hL5 hr5 e0 e1 e2 e3 hat'
      go_wp2_with fail
      go_roundw
      case rel => exact ⟨j + 1, v5, by omega, by go_num, by rw [HTK.out]; exact HL5.out, HR5.out⟩
      case measure => simp [intOf]; omega
    · have hz : ts.take j = ts := List.take_of_length_le (by omega)
      have HZ := hid hz
      clear hz
      go_wp2_with fail
      first | go_ret | go_end0
      refine ⟨⟨_, rfl⟩, v', ?_, (Lr.of_below hb0 v).trans HR4.out⟩
      have := HL4.out
      rwa [HZ.out] at this

theorem eachCo_any (fc : FuncId) (bs : Array Value) (M B : Nat) {α : Type} (St : α → Value → World → Prop) (len : α → Nat) (step : α → Co → α) (hfc : CallOkT fc) (hMB : M < B) (hlen : ∀ a t, len (step a t) ≤ len a + 2)
    (hSt : ∀ a v w w', St a v w → Below w.heap.size w w' → St a v w') (hown : ∀ a v w, St a v w → ∀ b, v.ownBlock = some b → B ≤ b ∧ b < w.heap.size) (hV : CVis fc bs M B St len step) :
    ∀ t : Co, CEcC fc bs M B St len step t := Co.ind (eachCo_of fc bs M B St len step hfc hMB hlen hSt hown hV)
end Go.Proofs.Ytolhfcpmhhhjpaa

namespace Go.Proofs.Ytolhfcpmhhhjpaa
open Go.RowKit

theorem Try.underCos : Try.prog.underlying 28 = some (.slice 30) := by kernel_rfl
theorem Try.infoCo : (Try.prog.info? 30).map (fun i => (i.zero, i.size, i.bytes)) = some (some (.agg #[.int .i64 0, .int .i64 0, .int .i64 0, .slice none 0 0]), 4, 48) := by kernel_rfl

end Go.Proofs.Ytolhfcpmhhhjpaa

namespace Go.Proofs.Ytolhfcpmhhhjpaa
open Go.RowKit

def CiC (t : Co) : Prop := ∀ (v : Value) (fp : List Nat) (w : World), t.At w v fp → t.cnt ≤ 1048576 → Calls Try.prog 60 #[v] w (MadeC w t)

theorem two_blocks {w wr : World} {o o' : Obj} (h : Below ((w.alloc o).alloc o').heap.size ((w.alloc o).alloc o') wr) : wr.heap[w.heap.size]? = some o ∧ wr.heap[w.heap.size + 1]? = some o' := by
  have hs : (w.alloc o).heap.size = w.heap.size + 1 := by simp
  refine ⟨(h.block w.heap.size (by simp; omega)).trans ((Below.heap_alloc _ _ _ (by simp)).trans (alloc_new w _)), ?_⟩
  rw [h.block (w.heap.size + 1) (by simp), ← hs]
  exact alloc_new _ _

/-- Behind the stores of the copy's end. -/
theorem copy_close {w wr : World} {k g l : Int} {ts : List Co} {a : Option Addr} {n cap : Nat} {fp : List Nat} (hs : CSl wr ts (.slice a n cap) fp) (hf : Fresh (w.heap.size + 1 + 1) wr fp) (hb : Below w.heap.size w wr) :
    MadeC w (.mk k g l ts) (.returned (.agg #[.int .i64 k, .int .i64 g, .int .i64 l, .slice a n cap])) (put4 (wr.setCell ⟨w.heap.size, 3, none⟩ (.slice a n cap)) (w.heap.size + 1) 0 (.int .i64 k) (.int .i64 g) (.int .i64 l) (.slice a n cap)) := by
  have hab := (((((Above.refl (w.heap.size + 1 + 1) wr).setCell (p := ⟨w.heap.size, 3, none⟩) (by simp; omega) (.slice a n cap)).setCell (p := ⟨w.heap.size + 1, 0, none⟩) (by simp) (.int .i64 k)).setCell (p := ⟨w.heap.size + 1, 0 + 1, none⟩) (by simp) (.int .i64 g)).setCell (p := ⟨w.heap.size + 1, 0 + 2, none⟩) (by simp) (.int .i64 l)).setCell (p := ⟨w.heap.size + 1, 0 + 3, none⟩) (by simp) (.slice a n cap)
  have hbb := ((((hb.setCell (p := ⟨w.heap.size, 3, none⟩) (Nat.le_refl _) (.slice a n cap)).setCell (p := ⟨w.heap.size + 1, 0, none⟩) (by simp) (.int .i64 k)).setCell (p := ⟨w.heap.size + 1, 0 + 1, none⟩) (by simp) (.int .i64 g)).setCell (p := ⟨w.heap.size + 1, 0 + 2, none⟩) (by simp) (.int .i64 l)).setCell (p := ⟨w.heap.size + 1, 0 + 3, none⟩) (by simp) (.slice a n cap)
  exact ⟨_, fp, rfl, Co.at_mk.2 ⟨_, rfl, hs.above hab hf.ge⟩, (hf.above hab (Nat.le_refl _)).mono (by omega), hbb⟩

set_option maxRecDepth 100000 in
set_option maxHeartbeats 2000000 in
theorem copyCo_of (k g l : Int) (ts : List Co) (ih : ∀ t ∈ ts, CiC t) : CiC (.mk k g l ts) := by
  intro v fp w hat hn
  have HIH := hid ih
  clear ih
  obtain ⟨s, rfl, hs⟩ := Co.at_mk.1 hat
  obtain ⟨a, cap, rfl, hc, hm, hget⟩ := hs.open
  have HG := hid hget
  have HN := hid (show ts.length + ccntL ts ≤ 1048576 by simpa only [Co.cnt] using hn)
  have hb0 : Below w.heap.size w ((w.alloc (Obj.cells #[.int .i64 k, .int .i64 g, .int .i64 l, .slice a ts.length cap] 30)).alloc (Obj.cells #[.int .i64 0, .int .i64 0, .int .i64 0, .slice none 0 0] 30)) := ((Below.refl _ _).alloc (Nat.le_refl _) _).alloc (by simp) _
  have HB0 := hid hb0
  have hs2 : (((w.alloc (Obj.cells #[.int .i64 k, .int .i64 g, .int .i64 l, .slice a ts.length cap] 30)).alloc (Obj.cells #[.int .i64 0, .int .i64 0, .int .i64 0, .slice none 0 0] 30))).heap.size = w.heap.size + 1 + 1 := by simp
  have HS2 := hid hs2
  have HBX := hid (fun (wr : World) (h : Below (((w.alloc (Obj.cells #[.int .i64 k, .int .i64 g, .int .i64 l, .slice a ts.length cap] 30)).alloc (Obj.cells #[.int .i64 0, .int .i64 0, .int .i64 0, .slice none 0 0] 30))).heap.size ((w.alloc (Obj.cells #[.int .i64 k, .int .i64 g, .int .i64 l, .slice a ts.length cap] 30)).alloc (Obj.cells #[.int .i64 0, .int .i64 0, .int .i64 0, .slice none 0 0] 30)) wr) => two_blocks h)
  clear hget hat hs hn hb0 hs2
  by_cases h0 : ts.length = 0
  · have ht : ts = [] := List.length_eq_zero_iff.1 h0
    subst ht
    go_enter Try.func60, Try.ntmps60
    go_wp2_with fail
    go_loop [15] (fun i => i = .int .i64 0) (fun _ => 0)
    case atStart => rfl
    case round =>
      obtain rfl := hrel
      go_wp2_with fail
      exact bodyPost_ret (v := .agg #[.int .i64 k, .int .i64 g, .int .i64 l, .slice none 0 0]) (by simp [results, Try.results60, go_sem]) rfl ⟨_, [], rfl, Co.at_mk.2 ⟨.slice none 0 0, rfl, CSl.nilA⟩, Fresh.nil _ _, ((Below.refl _ _).alloc (Nat.le_refl _) _).alloc (by simp) _⟩
  have hpos : 0 < ts.length := by omega
  have hpos' : (0 : Int) < (ts.length : Int) := by omega
  obtain ⟨Z, hZ, hmk⟩ : ∃ Z : Array Value, Z.size = ts.length * 4 ∧ ∀ w : World, (Instr.makeSlice 28 (.int .i64 (ts.length : Int)) (.int .i64 (ts.length : Int))).run Try.prog w = .ok (.slice (some ⟨w.heap.size, 0, none⟩) ts.length ts.length) (w.alloc (.cells Z 30)) := by
    obtain ⟨i0, hi, hz0, hz1, hz2⟩ := info_parts (P := Try.prog) (e := 30) Try.infoCo
    have hsm : ts.length ≤ 1048576 := by have := HN.out; omega
    have r := fun w : World => run_make w _ _ i0 _ Try.underCos hi hz0 .i64 .i64 (ts.length : Int) (ts.length : Int) (by omega) (by omega) (by rw [hz2]; omega) (by omega)
    simp only [Int.toNat_natCast, hz1] at r
    exact ⟨_, size_madeCells _ _, r⟩
  have HZ := hid hZ
  clear hZ h0
  go_enter Try.func60, Try.ntmps60
  go_wp2_with fail
  go_loopw [15] (fun i wr => ∃ (j : Nat) (f0 : List Nat), j ≤ ts.length ∧ i = .int .i64 j ∧ BuiltC (w.heap.size + 1 + 1) 30 ts.length (ts.take j) f0 wr ∧ Below (((w.alloc (Obj.cells #[.int .i64 k, .int .i64 g, .int .i64 l, .slice a ts.length cap] 30)).alloc (Obj.cells #[.int .i64 0, .int .i64 0, .int .i64 0, .slice none 0 0] 30))).heap.size ((w.alloc (Obj.cells #[.int .i64 k, .int .i64 g, .int .i64 l, .slice a ts.length cap] 30)).alloc (Obj.cells #[.int .i64 0, .int .i64 0, .int .i64 0, .slice none 0 0] 30)) wr) (fun i _ => ts.length - (intOf i).toNat)
  case atStart => exact ⟨0, [], Nat.zero_le _, rfl, BuiltC.zero (C := Z) (by rw [← HS2.out]; exact alloc_new _ _) HZ.out, (Below.refl _ _).alloc (Nat.le_refl _) _⟩
  case round =>
    obtain ⟨j, f0, hj, rfl, hB, hb⟩ := hrel
    obtain ⟨bX, bR⟩ := HBX.out _ hb
    have x0 : wr.cell? ⟨w.heap.size, 0, none⟩ = some (.int .i64 k) := by rw [cell_of_block bX]; rfl
    have x1 : wr.cell? ⟨w.heap.size, 1, none⟩ = some (.int .i64 g) := by rw [cell_of_block bX]; rfl
    have x2 : wr.cell? ⟨w.heap.size, 2, none⟩ = some (.int .i64 l) := by rw [cell_of_block bX]; rfl
    have x3 : wr.cell? ⟨w.heap.size, 3, none⟩ = some (.slice a ts.length cap) := by rw [cell_of_block bX]; rfl
    by_cases hlk : j < ts.length
    · obtain ⟨b, o, k1, g1, l1, n1, a1, cap1, f1, rfl, hblt, c0, c1, c2, c3, hat, hf⟩ := HG.out j hlk
      have hbw := below_trans HB0.out hb
      have d0 := (hbw.cell (p := ⟨b, o + j * 4, none⟩) hblt).trans c0
      have d1 := (hbw.cell (p := ⟨b, o + j * 4 + 1, none⟩) hblt).trans c1
      have d2 := (hbw.cell (p := ⟨b, o + j * 4 + 2, none⟩) hblt).trans c2
      have d3 := (hbw.cell (p := ⟨b, o + j * 4 + 3, none⟩) hblt).trans c3
      have hj0 : (0 : Int) ≤ (j : Int) := by omega
      have hj1 : (j : Int) < (ts.length : Int) := by omega
      clear c0 c1 c2 c3 bX bR
      go_wp2_with fail
      refine (HIH.out _ (List.getElem_mem hlk) _ _ _ (hat.below hbw) (by have := HN.out; have := ccnt_mem (List.getElem_mem hlk); omega)).mono ?_
      rintro e w1 ⟨v, f', rfl, hat', hf', hb1⟩
      obtain ⟨k1', g1', l1', n1', a1', cap1', rfl⟩ := hat'.agg
      obtain ⟨y0, y1, y2, y3, p0, p1, p2, p3, z0⟩ := hB.cells hlk hb1
      clear d0 d1 d2 d3 x0 x1 x2 x3
      go_wp2_with fail
      refine ⟨⟨j + 1, f0 ++ f', by omega, by go_num, ?_, ?_⟩, by simp [intOf]; omega⟩
      · rw [ctake_succ hlk]
        exact hB.step (by rw [List.length_take]; omega) hlk hb1 hat' hf'
      · have hM := Nat.le_of_eq HS2.out
        exact ((((below_trans hb hb1).setCell (p := ⟨w.heap.size + 1 + 1, j * 4, none⟩) hM _).setCell (p := ⟨w.heap.size + 1 + 1, j * 4 + 1, none⟩) hM _).setCell (p := ⟨w.heap.size + 1 + 1, j * 4 + 2, none⟩) hM _).setCell (p := ⟨w.heap.size + 1 + 1, j * 4 + 3, none⟩) hM _
    · obtain ⟨fp', hs', hf'⟩ := hB.done (by rw [List.length_take]; omega) (by have := HN.out; unfold maxLen; omega)
      rw [List.take_of_length_le (by omega)] at hs'
      have FIN := copy_close (k := k) (g := g) (l := l) hs' hf' (below_trans HB0.out hb)
      simp only [put4, Nat.zero_add] at FIN
      have xz := frozen_of_block (o := 3) bX
      have r0 : wr.cell? ⟨w.heap.size + 1, 0, none⟩ = some (.int .i64 0) := by rw [cell_of_block bR]; rfl
      have r1 : wr.cell? ⟨w.heap.size + 1, 1, none⟩ = some (.int .i64 0) := by rw [cell_of_block bR]; rfl
      have r2 : wr.cell? ⟨w.heap.size + 1, 2, none⟩ = some (.int .i64 0) := by rw [cell_of_block bR]; rfl
      have r3 : wr.cell? ⟨w.heap.size + 1, 3, none⟩ = some (.slice none 0 0) := by rw [cell_of_block bR]; rfl
      have rz := fun o => frozen_of_block (o := o) bR
      clear bX bR hs'
      go_wp2_with fail
      exact bodyPost_ret (v := .agg #[.int .i64 k, .int .i64 g, .int .i64 l, .slice (some ⟨w.heap.size + 1 + 1, 0, none⟩) ts.length ts.length]) (by simp [results, Try.results60, go_sem, r0, r1, r2, r3]) rfl FIN

theorem copyCo_any : ∀ t : Co, CiC t := Co.ind copyCo_of
end Go.Proofs.Ytolhfcpmhhhjpaa

namespace Go.Proofs.Ytolhfcpmhhhjpaa
open Go.RowKit

mutual
def coEq : Co → Co → Bool
  | .mk k g l ts, .mk k' g' l' us => (k == k') && ((g == g') && ((l == l') && coEqL ts us))
def coEqL : List Co → List Co → Bool
  | [], [] => true
  | t :: ts, u :: us => coEq t u && coEqL ts us
  | _, _ => false
end

mutual
theorem coEq_refl : ∀ t : Co, coEq t t = true
  | .mk k g l ts => by simp [coEq, coEqL_refl ts]
theorem coEqL_refl : ∀ ts : List Co, coEqL ts ts = true
  | [] => by simp only [coEqL]
  | t :: ts => by simp [coEqL, coEq_refl t, coEqL_refl ts]
end

mutual
theorem eq_of_coEq : ∀ {t u : Co}, coEq t u = true → t = u
  | .mk k g l ts, .mk k' g' l' us, h => by
    simp only [coEq, Bool.and_eq_true, beq_iff_eq] at h
    rw [h.1, h.2.1, h.2.2.1, eq_of_coEqL h.2.2.2]
theorem eq_of_coEqL : ∀ {ts us : List Co}, coEqL ts us = true → ts = us
  | [], [], _ => rfl
  | [], _ :: _, h => by simp only [coEqL] at h; cases h
  | _ :: _, [], h => by simp only [coEqL] at h; cases h
  | t :: ts, u :: us, h => by
    simp only [coEqL, Bool.and_eq_true] at h
    rw [eq_of_coEq h.1, eq_of_coEqL h.2]
end

end Go.Proofs.Ytolhfcpmhhhjpaa

namespace Go.Proofs.Ytolhfcpmhhhjpaa
open Go.RowKit

theorem second_newQ (w : World) (X Y : Obj) : ((w.alloc X).alloc Y).heap[w.heap.size + 1]? = some Y := by
  have hs : (w.alloc X).heap.size = w.heap.size + 1 := by simp
  rw [← hs]
  exact alloc_new _ _

theorem boxes44Q {w wr : World} {x y z u x' y' z' u' : Value} {T T' : TypeId} (h : Below ((w.alloc (Obj.cells #[x, y, z, u] T)).alloc (Obj.cells #[x', y', z', u'] T')).heap.size ((w.alloc (Obj.cells #[x, y, z, u] T)).alloc (Obj.cells #[x', y', z', u'] T')) wr) :
    wr.heap[w.heap.size]? = some (Obj.cells #[x, y, z, u] T) ∧ wr.heap[w.heap.size + 1]? = some (Obj.cells #[x', y', z', u'] T') := by
  refine ⟨(h.block w.heap.size (by simp; omega)).trans ((Below.heap_alloc _ _ _ (by simp)).trans (alloc_new w _)), ?_⟩
  rw [h.block (w.heap.size + 1) (by simp)]
  exact second_newQ _ _ _

theorem blkMQ {w w' : World} {M : Nat} {o : Obj} (h : w.heap[M]? = some o) (hb : Below w.heap.size w w') : w'.heap[M]? = some o := (hb.block _ (lt_of_block h)).trans h

end Go.Proofs.Ytolhfcpmhhhjpaa

/- Coercions made of others: rows of one and of two, and what is stored into a result's cell. -/
import Derived.Test.YtgekfnodmgkdaaaCq
import Derived.Test.YtgekfnodmgkdaaaTx0
namespace Go.Proofs.Ytgekfnodmgkdaaa
open Go.RowKit

theorem co_one {w : World} {k g l : Int} {t : Co} {b : Nat} {v0 v1 v2 v3 : Value} {f : List Nat} (hE : w.heap[b]? = some (Obj.cells #[v0, v1, v2, v3] 44)) (ht : t.At w (.agg #[v0, v1, v2, v3]) f) :
    (Co.mk k g l [t]).At w (.agg #[.int .i64 k, .int .i64 g, .int .i64 l, .slice (some ⟨b, 0, none⟩) 1 1]) (b :: f) := by
  refine Co.at_mk.2 ⟨_, rfl, .inr ⟨b, 0, 1, f, rfl, by simp, by simp, by simp [maxLen], ?_, rfl⟩⟩
  refine ⟨v0, v1, v2, v3, f, [], ?_, ?_, ?_, ?_, ht, by simp only [Co.AtL], by simp⟩ <;> (rw [cell_of_block hE]; rfl)

theorem co_two {w : World} {k g l : Int} {t u : Co} {b : Nat} {v0 v1 v2 v3 u0 u1 u2 u3 : Value} {f f' : List Nat} (hE : w.heap[b]? = some (Obj.cells #[v0, v1, v2, v3, u0, u1, u2, u3] 44)) (ht : t.At w (.agg #[v0, v1, v2, v3]) f) (hu : u.At w (.agg #[u0, u1, u2, u3]) f') :
    (Co.mk k g l [t, u]).At w (.agg #[.int .i64 k, .int .i64 g, .int .i64 l, .slice (some ⟨b, 0, none⟩) 2 2]) (b :: (f ++ f')) := by
  refine Co.at_mk.2 ⟨_, rfl, .inr ⟨b, 0, 2, f ++ f', rfl, by simp, by simp, by simp [maxLen], ?_, rfl⟩⟩
  refine ⟨v0, v1, v2, v3, f, f', ?_, ?_, ?_, ?_, ht, ?_, rfl⟩
  any_goals (rw [cell_of_block hE]; rfl)
  refine ⟨u0, u1, u2, u3, f', [], ?_, ?_, ?_, ?_, hu, by simp only [Co.AtL], by simp⟩ <;> (rw [cell_of_block hE]; rfl)

theorem Fresh.row {B b : Nat} {w : World} {T : TypeId} {C : Array Value} {f : List Nat} (h : Fresh B w f) (hE : w.heap[b]? = some (Obj.cells C T)) (hB : B ≤ b) (hb : ∀ x ∈ f, x < b) : Fresh B w (b :: f) :=
  ⟨List.nodup_cons.2 ⟨fun hm => by have := hb b hm; omega, h.1⟩, fun x hx => by
    rcases List.mem_cons.1 hx with rfl | hx
    · exact ⟨hB, lt_of_block hE, fun o => frozen_of_block hE⟩
    · exact h.2 x hx⟩

theorem put4_above {w : World} {M lo : Nat} (h : M < lo) (x0 x1 x2 x3 : Value) : Above lo w (put4 w M 0 x0 x1 x2 x3) :=
  ((((Above.refl lo w).setCell (p := ⟨M, 0, none⟩) h x0).setCell (p := ⟨M, 0 + 1, none⟩) h x1).setCell (p := ⟨M, 0 + 2, none⟩) h x2).setCell (p := ⟨M, 0 + 3, none⟩) h x3

theorem put4_below {w wF : World} {M : Nat} (h : Below w.heap.size w wF) (hM : w.heap.size ≤ M) (x0 x1 x2 x3 : Value) : Below w.heap.size w (put4 wF M 0 x0 x1 x2 x3) :=
  (((h.setCell (p := ⟨M, 0, none⟩) hM x0).setCell (p := ⟨M, 0 + 1, none⟩) hM x1).setCell (p := ⟨M, 0 + 2, none⟩) hM x2).setCell (p := ⟨M, 0 + 3, none⟩) hM x3

/-- A coercion in new memory, behind the stores into the result's cell. -/
theorem close4 {w wF : World} {M lo : Nat} {t : Co} {v0 v1 v2 v3 : Value} {fp : List Nat} (hat : t.At wF (.agg #[v0, v1, v2, v3]) fp) (hf : Fresh lo wF fp) (hM : w.heap.size ≤ M) (hlo : M < lo) (hbw : Below w.heap.size w wF) :
    MadeC w t (.returned (.agg #[v0, v1, v2, v3])) (put4 wF M 0 v0 v1 v2 v3) :=
  ⟨_, fp, rfl, hat.above (put4_above hlo _ _ _ _) hf.ge, (hf.above (put4_above hlo _ _ _ _) (Nat.le_refl _)).mono (by omega), put4_below hbw hM _ _ _ _⟩

theorem three3 {w wr : World} {o1 o2 o3 : Obj} (h : Below (((w.alloc o1).alloc o2).alloc o3).heap.size (((w.alloc o1).alloc o2).alloc o3) wr) :
    wr.heap[w.heap.size]? = some o1 ∧ wr.heap[w.heap.size + 1]? = some o2 ∧ wr.heap[w.heap.size + 1 + 1]? = some o3 := by
  have h1 : (w.alloc o1).heap.size = w.heap.size + 1 := by simp
  have h2 : ((w.alloc o1).alloc o2).heap.size = w.heap.size + 1 + 1 := by simp
  refine ⟨(h.block _ (by simp; omega)).trans ((Below.heap_alloc _ _ _ (by simp; omega)).trans ((Below.heap_alloc _ _ _ (by simp)).trans (alloc_new _ _))), (h.block _ (by simp)).trans ((Below.heap_alloc _ _ _ (by simp)).trans ?_), (h.block _ (by simp)).trans ?_⟩
  · rw [← h1]; exact alloc_new _ _
  · rw [← h2]; exact alloc_new _ _

theorem shp_small : ∀ {d : Nat} {t : Ty}, shp d t = true → t.cnt + 2 ≤ 2 ^ (d + 1)
  | 0, _, h => by simp [shp] at h
  | d + 1, .mk k ts, h => by
    have hp : 0 < 2 ^ d := Nat.pow_pos (by omega)
    rcases shp_cases h with ⟨rfl, _⟩ | ⟨a, b, rfl, _, ha, hb⟩
    · simp only [Ty.cnt, cntL, List.length_nil, Nat.pow_succ]
      omega
    · have h1 := shp_small ha
      have h2 := shp_small hb
      simp only [Ty.cnt, cntL, List.length_cons, List.length_nil, Nat.pow_succ] at *
      omega

theorem shp_cnt30 {d : Nat} {t : Ty} (h : shp d t = true) (hd : d ≤ 4) : t.cnt ≤ 1048576 := by
  have h1 := shp_small h
  have h2 : 2 ^ (d + 1) ≤ 2 ^ 5 := Nat.pow_le_pow_right (by omega) (by omega)
  omega

theorem shp_wf {d : Nat} {t : Ty} (h : shp d t = true) : wf t := ⟨d, h⟩

theorem shp_leaf {d : Nat} {k : Int} (h : k = 1 ∨ k = 2 ∨ k = 3) : shp (d + 1) (.mk k []) = true := by
  simp [shp, kidsOf, h]

theorem shp_gk {d : Nat} {f : Ty} (h : shp d f = true) : shp d (gk (kindT f)) = true := by
  cases d with
  | zero => simp [shp] at h
  | succ d =>
    obtain ⟨k, ts, rfl⟩ := f.shape
    rcases shp_cases h with ⟨rfl, hk⟩ | ⟨a, b, rfl, hk, ha, _⟩
    · have e : gk k = .mk k [] := by unfold gk; rw [if_neg (by omega)]
      show shp (d + 1) (gk k) = true
      rw [e]
      exact shp_leaf hk
    · cases d with
      | zero => simp [shp] at ha
      | succ d =>
        have e : gk k = .mk k [.mk 1 [], .mk 1 []] := by unfold gk; rw [if_pos hk]
        have h1 : ¬ (k = 1 ∨ k = 2 ∨ k = 3) := by omega
        have h2 : shp (d + 1) (.mk 1 []) = true := shp_leaf (.inl rfl)
        show shp (d + 1 + 1) (gk k) = true
        rw [e, shp]
        simp [kidsOf, h1, hk, h2]

theorem cons_gk {f : Ty} (h : wf f) : cons f (gk (kindT f)) = true ∧ cons (gk (kindT f)) f = true := by
  obtain ⟨k, ts, rfl⟩ := f.shape
  rcases wf_kids h with ⟨hk, rfl⟩ | ⟨hk, a, b, rfl, _, _⟩
  · have : ¬ (k = 4 ∨ k = 5) := by omega
    simp [gk, this, kindT, cons, consL]
  · obtain ⟨ka, la, rfl⟩ := a.shape
    obtain ⟨kb, lb, rfl⟩ := b.shape
    have : ¬ k = 1 := by omega
    simp [gk, hk, kindT, cons, consL, this]

theorem gk_kind (k : Int) : kindT (gk k) = k := rfl

theorem SlAt.none' {w : World} {s : Value} {fp : List Nat} (h : SlAt w [] s fp) : ∃ a cap, s = .slice a 0 cap := by
  rcases h with ⟨_, _, a, cap, rfl⟩ | ⟨b, o, cap, f, _, hp, _⟩
  · exact ⟨a, cap, rfl⟩
  · simp at hp

/-- The depth that is left suffices. -/
def fuelOk (n d : Nat) (f t : Ty) : Prop := 2 * d ≤ n ∨ (2 * d ≤ n + 1 ∧ kindT f = kindT t)

/-- What a cast between two types may be. -/
inductive CstK (d : Nat) : Ty → Ty → Prop
  | id (k : Int) (h : k = 1 ∨ k = 2 ∨ k = 3) : CstK d (.mk k []) (.mk k [])
  | inj (f : Ty) (h : kindT f ≠ 1) : CstK d f (.mk 1 [])
  | prj (t : Ty) (h : kindT t ≠ 1) : CstK d (.mk 1 []) t
  | two (k : Int) (f1 f2 t1 t2 : Ty) (h : k = 4 ∨ k = 5) (hf1 : shp (d - 1) f1 = true) (hf2 : shp (d - 1) f2 = true) (ht1 : shp (d - 1) t1 = true) (ht2 : shp (d - 1) t2 = true) (h1 : cons f1 t1 = true) (h2 : cons f2 t2 = true) (hd : 1 < d) : CstK d (.mk k [f1, f2]) (.mk k [t1, t2])

theorem cons_symm2 : ∀ {t u : Ty}, cons t u = true → cons u t = true := by
  intro t
  refine Ty.ind (P := fun t => ∀ {u : Ty}, cons t u = true → cons u t = true) (fun k ts ih => ?_) t
  intro u h
  obtain ⟨k', us, rfl⟩ := u.shape
  simp only [cons] at *
  by_cases h1 : k = 1 ∨ k' = 1
  · rw [if_pos h1.symm]
  · rw [if_neg h1] at h
    rw [if_neg (fun e => h1 e.symm)]
    by_cases hk : k = k'
    · subst hk
      rw [if_pos rfl] at h ⊢
      have hl : ∀ (ts us : List Ty), (∀ t ∈ ts, ∀ {u : Ty}, cons t u = true → cons u t = true) → consL ts us = true → consL us ts = true := by
        intro ts
        induction ts with
        | nil => intro us _ _; cases us <;> simp [consL]
        | cons t ts ih2 =>
          intro us hh h
          cases us with
          | nil => simp [consL]
          | cons u us =>
            simp only [consL, Bool.and_eq_true] at h ⊢
            exact ⟨hh t (by simp) h.1, ih2 us (fun t ht => hh t (by simp [ht])) h.2⟩
      exact hl ts us ih h
    · rw [if_neg hk] at h
      cases h

theorem cstK {d : Nat} {f t : Ty} (hf : shp d f = true) (ht : shp d t = true) (hc : cons f t = true) : CstK d f t := by
  cases d with
  | zero => simp [shp] at hf
  | succ d =>
    obtain ⟨kf, fs, rfl⟩ := f.shape
    obtain ⟨kt, ts, rfl⟩ := t.shape
    by_cases h1 : kt = 1
    · subst h1
      have e : ts = [] := by
        rcases shp_cases ht with ⟨h, _⟩ | ⟨a, b, _, h, _⟩
        · exact h
        · omega
      subst e
      by_cases h2 : kf = 1
      · subst h2
        have e : fs = [] := by
          rcases shp_cases hf with ⟨h, _⟩ | ⟨a, b, _, h, _⟩
          · exact h
          · omega
        subst e
        exact .id 1 (by omega)
      · exact .inj _ h2
    · by_cases h2 : kf = 1
      · subst h2
        have e : fs = [] := by
          rcases shp_cases hf with ⟨h, _⟩ | ⟨a, b, _, h, _⟩
          · exact h
          · omega
        subst e
        exact .prj _ h1
      · simp only [cons] at hc
        rw [if_neg (by omega)] at hc
        by_cases hk : kf = kt
        · subst hk
          rw [if_pos rfl] at hc
          rcases shp_cases hf with ⟨rfl, hl⟩ | ⟨a, b, rfl, hl, ha, hb⟩
          · rcases shp_cases ht with ⟨rfl, _⟩ | ⟨_, _, _, hl', _⟩
            · exact .id _ hl
            · omega
          · rcases shp_cases ht with ⟨_, hl'⟩ | ⟨a', b', rfl, _, ha', hb'⟩
            · omega
            · simp only [consL, Bool.and_true, Bool.and_eq_true] at hc
              refine .two _ a b a' b' hl (by simpa using ha) (by simpa using hb) (by simpa using ha') (by simpa using hb') hc.1 hc.2 ?_
              cases d with
              | zero => simp [shp] at ha
              | succ d => omega
        · rw [if_neg hk] at hc
          cases hc

theorem cst_id {n : Nat} {k l : Int} : cst (n + 1) (.mk k []) (.mk k []) l = .mk 1 k 0 [] := by simp [cst, kindT, kidsT']
theorem cst_inj {n : Nat} {f : Ty} {l : Int} (h : kindT f ≠ 1) : cst (n + 1) f (.mk 1 []) l = .mk 4 0 0 [cst n f (gk (kindT f)) l] := by
  obtain ⟨k, ts, rfl⟩ := f.shape
  have h' : ¬ k = 1 := h
  simp [cst, kindT, h']
theorem cst_prj {n : Nat} {t : Ty} {l : Int} (h : kindT t ≠ 1) : cst (n + 1) (.mk 1 []) t l = .mk 5 0 l [cst n (gk (kindT t)) t l] := by
  obtain ⟨k, ts, rfl⟩ := t.shape
  have h' : ¬ k = 1 := h
  have h2 : ¬ 1 = k := fun e => h' e.symm
  simp [cst, kindT, h', h2]
theorem cst_two {n : Nat} {k l : Int} {f1 f2 t1 t2 : Ty} (h : k = 4 ∨ k = 5) : cst (n + 1) (.mk k [f1, f2]) (.mk k [t1, t2]) l = if k = 4 then .mk 2 0 0 [cst n t1 f1 (-l), cst n f2 t2 l] else .mk 3 0 0 [cst n f1 t1 l, cst n f2 t2 l] := by
  rcases h with rfl | rfl <;> simp [cst, kindT, kidsT']

theorem shp_up : ∀ {d e : Nat} {t : Ty}, d ≤ e → shp d t = true → shp e t = true
  | 0, _, _, _, h => by simp [shp] at h
  | d + 1, 0, _, hde, _ => by omega
  | d + 1, e + 1, .mk k ts, hde, h => by
    simp only [shp, Bool.and_eq_true, List.all_eq_true] at h ⊢
    exact ⟨h.1, fun t ht => shp_up (by omega) (h.2 t ht)⟩

theorem shp_gk4 {k : Int} (h : 1 ≤ k ∧ k ≤ 5) : shp 4 (gk k) = true := by
  have : k = 1 ∨ k = 2 ∨ k = 3 ∨ k = 4 ∨ k = 5 := by omega
  rcases this with rfl | rfl | rfl | rfl | rfl <;> decide
end Go.Proofs.Ytgekfnodmgkdaaa

/- The coercion of a cast, plainly: it leads from the one type to the other, its labels are the cast's, and it is an identity exactly between equal types. Composition, plainly: labels, heights, tags, types. Composition, plainly: tags and types. Composition, plainly: it preserves types. Composition, plainly: identities are neutral. Composition, plainly: failures are final, identities are idempotent and have no labels; the height of a cast's coercion. Casts there and back, plainly: their coercions compose, and cancel out between equal types. -/
import Derived.Lib.SlicesCompact
import Derived.Test.YtolhfcpmhhhjpaaSG3
import Derived.Test.YtolhfcpmhhhjpaaSG7
import Derived.Test.YtolhfcpmhhhjpaaSCcf
namespace Go.Proofs.Ytolhfcpmhhhjpaa
open Go.RowKit

theorem tag_cst : ∀ (n : Nat) (f t : Ty) (l : Int) (d : Nat), fuelOk n d f t → shp d f = true → shp d t = true → cons f t = true → kindT f = kindT t → kindT f ≠ 1 → tagC (cst n f t l) = kindT f := by
  intro n f t l d hn hf ht hc hk h1
  cases n with
  | zero =>
    exfalso
    cases d with
    | zero => simp [shp] at hf
    | succ d => rcases hn with hn | ⟨hn, _⟩ <;> omega
  | succ n =>
    cases cstK hf ht hc with
    | id k h => rw [cst_id]; rcases h with rfl | rfl | rfl <;> simp [tagC, kindT]
    | inj _ h => exact absurd hk h
    | prj _ h => exact absurd hk.symm h
    | two k f1 f2 t1 t2 h a1 a2 b1 b2 e1 e2 hd1 =>
      rw [cst_two h]
      rcases h with rfl | rfl <;> simp [tagC, kindT]

theorem typ_cst : ∀ (n : Nat) (f t : Ty) (l : Int) (d m : Nat), fuelOk n d f t → shp d f = true → shp d t = true → cons f t = true → n ≤ m → typC m (cst n f t l) f t = true := by
  intro n
  induction n with
  | zero =>
    intro f t l d m hn hf ht
    exfalso
    cases d with
    | zero => simp [shp] at hf
    | succ d => rcases hn with hn | ⟨hn, _⟩ <;> omega
  | succ n ih =>
    intro f t l d m hn hf ht hc hm
    obtain ⟨m, rfl⟩ : ∃ m', m = m' + 1 := ⟨m - 1, by omega⟩
    cases cstK hf ht hc with
    | id k h =>
      rw [cst_id]
      simp [typC, kindT]
    | inj _ h =>
      rw [cst_inj h]
      have hn2 : 2 * d ≤ n + 1 := by
        rcases hn with hn | ⟨_, hk⟩
        · exact hn
        · exact absurd hk h
      have h1 := ih f (gk (kindT f)) l d m (.inr ⟨hn2, (kindT_gk _).symm⟩) hf (shp_gk hf) (cons_gk (shp_wf hf)).1 (by omega)
      have h2 := tag_cst n f (gk (kindT f)) l d (.inr ⟨hn2, (kindT_gk _).symm⟩) hf (shp_gk hf) (cons_gk (shp_wf hf)).1 (kindT_gk _).symm h
      have e1 : kindT (Ty.mk 1 []) = 1 := rfl
      simp [typC, h1, h2, e1]
    | prj _ h =>
      rw [cst_prj h]
      have hn2 : 2 * d ≤ n + 1 := by
        rcases hn with hn | ⟨_, hk⟩
        · exact hn
        · exact absurd hk.symm h
      have h1 := ih (gk (kindT t)) t l d m (.inr ⟨hn2, kindT_gk _⟩) (shp_gk ht) ht (cons_gk (shp_wf ht)).2 (by omega)
      have h2 := tag_cst n (gk (kindT t)) t l d (.inr ⟨hn2, kindT_gk _⟩) (shp_gk ht) ht (cons_gk (shp_wf ht)).2 (kindT_gk _) (by rw [kindT_gk]; exact h)
      rw [kindT_gk] at h2
      have e1 : kindT (Ty.mk 1 []) = 1 := rfl
      simp [typC, h1, h2, e1]
    | two k f1 f2 t1 t2 h a1 a2 b1 b2 e1 e2 hd1 =>
      have h2 : 2 * (d - 1) ≤ n := by rcases hn with hn | ⟨hn, _⟩ <;> omega
      rw [cst_two h]
      have g2 := ih f2 t2 l (d - 1) m (.inl h2) a2 b2 e2 (by omega)
      rcases h with rfl | rfl
      · have g1 := ih t1 f1 (-l) (d - 1) m (.inl h2) b1 a1 (cons_symm2 e1) (by omega)
        simp [typC, kidsT', kindT, g1, g2]
      · have g1 := ih f1 t1 l (d - 1) m (.inl h2) a1 b1 e1 (by omega)
        simp [typC, kidsT', kindT, g1, g2]

theorem id_cst : ∀ (n : Nat) (f t : Ty) (l : Int) (d : Nat), fuelOk n d f t → shp d f = true → shp d t = true → cons f t = true → idC (cst n f t l) = tyEq f t := by
  intro n
  induction n with
  | zero =>
    intro f t l d hn hf ht
    exfalso
    cases d with
    | zero => simp [shp] at hf
    | succ d => rcases hn with hn | ⟨hn, _⟩ <;> omega
  | succ n ih =>
    intro f t l d hn hf ht hc
    cases cstK hf ht hc with
    | id k h =>
      rw [cst_id, tyEq_refl]
      simp [idC, idL]
    | inj _ h =>
      rw [cst_inj h]
      obtain ⟨k, ts, rfl⟩ := f.shape
      have hk : (k == 1) = false := by simpa [kindT] using h
      simp [idC, tyEq, hk]
    | prj _ h =>
      rw [cst_prj h]
      obtain ⟨k, ts, rfl⟩ := t.shape
      have hk : (1 == k) = false := by
        have : ¬ k = 1 := by simpa [kindT] using h
        simp only [beq_eq_false_iff_ne, ne_eq]
        omega
      simp [idC, tyEq, hk]
    | two k f1 f2 t1 t2 h a1 a2 b1 b2 e1 e2 hd1 =>
      have h2 : 2 * (d - 1) ≤ n := by rcases hn with hn | ⟨hn, _⟩ <;> omega
      rw [cst_two h]
      have g2 := ih f2 t2 l (d - 1) (.inl h2) a2 b2 e2
      rcases h with rfl | rfl
      · have g1 := ih t1 f1 (-l) (d - 1) (.inl h2) b1 a1 (cons_symm2 e1)
        rw [tyEq_comm] at g1
        simp [idC, idL, g1, g2, tyEq, tyEqL]
      · have g1 := ih f1 t1 l (d - 1) (.inl h2) a1 b1 e1
        simp [idC, idL, g1, g2, tyEq, tyEqL]



theorem cstOk_parts {f t : Ty} {l : Int} (h : cstOk f t l = true) : shp 4 f = true ∧ shp 4 t = true ∧ cons f t = true ∧ isLb l = true := by
  simp only [cstOk, consOf, Bool.and_eq_true] at h
  exact ⟨h.1.1.1, h.1.1.2, h.1.2, h.2⟩

theorem vld_cst {f t : Ty} {l : Int} (h : cstOk f t l = true) : vldK (cstOf f t l) = true := by
  obtain ⟨h1, h2, h3, h4⟩ := cstOk_parts h
  rw [cstOf, if_pos h]
  exact shpK_up (by omega) (shpK_cst 8 f t l 4 (.inl (by omega)) h1 h2 h3 h4).1
theorem ctyp_cst {f t : Ty} {l : Int} (h : cstOk f t l = true) : ctyp (cstOf f t l) f t = true := by
  obtain ⟨h1, h2, h3, h4⟩ := cstOk_parts h
  have hv := vld_cst h
  simp only [ctyp, hv, Bool.true_and, Bool.and_eq_true]
  refine ⟨h1, h2, ?_⟩
  rw [cstOf, if_pos h]
  exact typ_cst 8 f t l 4 9 (.inl (by omega)) h1 h2 h3 (by omega)
theorem idV_cst {f t : Ty} {l : Int} (h : cstOk f t l = true) : idV (cstOf f t l) = tyEq f t := by
  obtain ⟨h1, h2, h3, h4⟩ := cstOk_parts h
  rw [idV, vld_cst h, Bool.true_and, cstOf, if_pos h]
  exact id_cst 8 f t l 4 (.inl (by omega)) h1 h2 h3
end Go.Proofs.Ytolhfcpmhhhjpaa

namespace Go.Proofs.Ytolhfcpmhhhjpaa
open Go.RowKit

/-- The cases of a composition. -/
inductive CmK (r : Co → Co → Option Co) : Co → Co → Co → Prop
  | unk (l : Int) (ts : List Co) (b : Co) (h : (∃ g l us, b = .mk 5 g l us) ∨ ∃ l us, b = .mk 1 1 l us) : CmK r (.mk 1 1 l ts) b b
  | prj (g l : Int) (a b c : Co) (h : r a b = some c) : CmK r (.mk 5 g l [a]) b (.mk 5 0 l [c])
  | fail (g l : Int) (ts : List Co) (b : Co) : CmK r (.mk 6 g l ts) b (.mk 6 g l ts)
  | meet (g l g' l' : Int) (a b c : Co) (ht : tagC a = tagC b) (h : r a b = some c) : CmK r (.mk 4 g l [a]) (.mk 5 g' l' [b]) c
  | clash (g l g' l' : Int) (a b : Co) (ht : tagC a ≠ tagC b) : CmK r (.mk 4 g l [a]) (.mk 5 g' l' [b]) (.mk 6 (tagC a) l' [])
  | injU (g l l' : Int) (ts us : List Co) : CmK r (.mk 4 g l ts) (.mk 1 1 l' us) (.mk 4 g l ts)
  | toFail (a : Co) (k g l g' l' : Int) (ts us : List Co) (ha : a = .mk k g l ts) (h1 : ¬ (k = 1 ∧ g = 1)) (h5 : k ≠ 5) (h6 : k ≠ 6) (h4 : k ≠ 4) (ht : tagC a = g') : CmK r a (.mk 6 g' l' us) (.mk 6 g' l' us)
  | toInj (a : Co) (k g l g' l' : Int) (ts : List Co) (b c : Co) (ha : a = .mk k g l ts) (h1 : ¬ (k = 1 ∧ g = 1)) (h5 : k ≠ 5) (h6 : k ≠ 6) (h4 : k ≠ 4) (h : r a b = some c) : CmK r a (.mk 4 g' l' [b]) (.mk 4 0 0 [c])
  | same (g l l' : Int) (ts us : List Co) (h : g ≠ 1) : CmK r (.mk 1 g l ts) (.mk 1 g l' us) (.mk 1 g l ts)
  | two (k g l l' : Int) (a1 a2 b1 b2 x y : Co) (h1 : k ≠ 1) (h5 : k ≠ 5) (h6 : k ≠ 6) (h4 : k ≠ 4) (hx : (if k = 2 then r b1 a1 else r a1 b1) = some x) (hy : r a2 b2 = some y) : CmK r (.mk k g l [a1, a2]) (.mk k g l' [b1, b2]) (.mk k 0 0 [x, y])

theorem one1_some {ts : List Co} {f : Co → Option Co} {c : Co} (h : one1 ts f = some c) : ∃ a, ts = [a] ∧ f a = some c := by
  match ts, h with
  | [a], h => exact ⟨a, rfl, h⟩
theorem map_some {o : Option Co} {f : Co → Co} {c : Co} (h : o.map f = some c) : ∃ x, o = some x ∧ c = f x := by
  cases o with
  | none => cases h
  | some x => exact ⟨x, rfl, by simpa using h.symm⟩

theorem cmK {r : Co → Co → Option Co} {a b c : Co} (h : cmpN r a b = some c) : CmK r a b c := by
  obtain ⟨k, g, l, ts, rfl⟩ := a.shape
  obtain ⟨k', g', l', us, rfl⟩ := b.shape
  simp only [cmpN] at h
  by_cases h1 : k = 1 ∧ g = 1
  · rw [if_pos h1] at h
    obtain ⟨rfl, rfl⟩ := h1
    split at h
    · rename_i hc
      cases h
      rcases hc with rfl | ⟨rfl, rfl⟩
      · exact .unk _ _ _ (.inl ⟨_, _, _, rfl⟩)
      · exact .unk _ _ _ (.inr ⟨_, _, rfl⟩)
    · cases h
  rw [if_neg h1] at h
  by_cases h5 : k = 5
  · rw [if_pos h5] at h
    subst h5
    obtain ⟨a, rfl, h⟩ := one1_some h
    obtain ⟨x, hx, rfl⟩ := map_some h
    exact .prj _ _ _ _ _ hx
  rw [if_neg h5] at h
  by_cases h6 : k = 6
  · rw [if_pos h6] at h
    subst h6
    cases h
    exact .fail _ _ _ _
  rw [if_neg h6] at h
  by_cases h4 : k = 4
  · rw [if_pos h4] at h
    subst h4
    split at h
    · rename_i h5'
      subst h5'
      obtain ⟨a, rfl, h2⟩ := one1_some h
      obtain ⟨b, rfl, h3⟩ := one1_some h2
      split at h3
      · rename_i ht
        exact .meet _ _ _ _ _ _ _ ht h3
      · rename_i ht
        cases h3
        exact .clash _ _ _ _ _ _ ht
    · split at h
      · rename_i hc
        obtain ⟨rfl, rfl⟩ := hc
        cases h
        exact .injU _ _ _ _ _
      · cases h
  rw [if_neg h4] at h
  by_cases h6' : k' = 6
  · rw [if_pos h6'] at h
    subst h6'
    split at h
    · rename_i ht
      cases h
      exact .toFail _ k g l _ _ ts _ rfl h1 h5 h6 h4 ht
    · cases h
  rw [if_neg h6'] at h
  by_cases h4' : k' = 4
  · rw [if_pos h4'] at h
    subst h4'
    obtain ⟨b, rfl, h⟩ := one1_some h
    obtain ⟨x, hx, rfl⟩ := map_some h
    exact .toInj _ k g l _ _ ts _ _ rfl h1 h5 h6 h4 hx
  rw [if_neg h4'] at h
  by_cases hs : k = k' ∧ g = g'
  · rw [if_pos hs] at h
    obtain ⟨rfl, rfl⟩ := hs
    by_cases hk : k = 1
    · rw [if_pos hk] at h
      subst hk
      cases h
      exact .same _ _ _ _ _ (fun e => h1 ⟨rfl, e⟩)
    · rw [if_neg hk] at h
      match ts, us, h with
      | [a1, a2], [b1, b2], h =>
        simp only [two2_two] at h
        cases hx : (if k = 2 then r b1 a1 else r a1 b1) with
        | none => rw [hx] at h; cases h
        | some x =>
          cases hy : r a2 b2 with
          | none => rw [hx, hy] at h; cases h
          | some y =>
            rw [hx, hy] at h
            simp only [bothC, Option.some.injEq] at h
            subst h
            exact .two _ _ _ _ _ _ _ _ _ _ hk h5 h6 h4 hx hy
  · rw [if_neg hs] at h
    cases h

theorem hgt4 {g l : Int} {a : Co} : hgt (.mk 4 g l [a]) = max (hgt a) 0 := by simp [hgt, hgtL]
theorem hgt5 {g l : Int} {a : Co} : hgt (.mk 5 g l [a]) = max (hgt a) 0 := by simp [hgt, hgtL]
theorem hgt_pos : ∀ (d : Nat) (t : Co), shpK d t = true → 1 ≤ hgt t
  | 0, _, h => by simp [shpK] at h
  | d + 1, .mk k g l ts, h => by
    obtain ⟨hn, hs⟩ := shpK_node h
    rcases nodeC_cases hn with ⟨rfl, rfl, _⟩ | ⟨rfl, _, _, a, b, rfl⟩ | ⟨rfl, _, _, a, b, rfl⟩ | ⟨rfl, _, _, a, rfl, _⟩ | ⟨rfl, _, _, a, rfl, _⟩ | ⟨rfl, rfl, _⟩
    · simp [hgt, hgtL]
    · have := (hgtL_bd [a, b]).1
      simp [hgt]; omega
    · have := (hgtL_bd [a, b]).1
      simp [hgt]; omega
    · have := hgt_pos d a (hs a (by simp))
      simp [hgt, hgtL]; omega
    · have := hgt_pos d a (hs a (by simp))
      simp [hgt, hgtL]; omega
    · simp [hgt, hgtL]

theorem hgt_cmp : ∀ (n : Nat) (a b c : Co) (d e : Nat), cmpo n a b = some c → shpK d a = true → shpK e b = true → hgt c ≤ max (hgt a) (hgt b)
  | 0, _, _, _, _, _, h, _, _ => by simp [cmpo] at h
  | n + 1, a, b, c, d, e, h, ha, hb => by
    have ih := hgt_cmp n
    obtain ⟨d, rfl⟩ : ∃ d', d = d' + 1 := ⟨d - 1, by cases d with | zero => simp [shpK] at ha | succ d => omega⟩
    obtain ⟨e, rfl⟩ : ∃ d', e = d' + 1 := ⟨e - 1, by cases e with | zero => simp [shpK] at hb | succ d => omega⟩
    cases cmK h with
    | unk l ts _ _ => omega
    | prj g l a _ c hr =>
      have h1 := ih _ _ _ _ _ hr ((shpK_node ha).2 a (by simp)) hb
      have h0 := (hgt_bd a).1
      have h2 := (hgt_bd c).1
      rw [hgt5, hgt5]
      omega
    | fail g l ts _ => omega
    | meet g l g' l' a b _ ht hr =>
      have h1 := ih _ _ _ _ _ hr ((shpK_node ha).2 a (by simp)) ((shpK_node hb).2 b (by simp))
      have h2 := (hgt_bd a).1
      have h3 := (hgt_bd b).1
      rw [hgt4, hgt5]
      omega
    | clash g l g' l' a b ht =>
      have h1 := hgt_pos _ _ ha
      have : hgt (.mk 6 (tagC a) l' []) = 1 := by simp [hgt, hgtL]
      omega
    | injU g l l' ts us => omega
    | toFail _ k g l g' l' ts us => omega
    | toInj _ k g l g' l' ts b c _ _ _ _ _ hr =>
      have h1 := ih _ _ _ _ _ hr ha ((shpK_node hb).2 b (by simp))
      have h0 := (hgt_bd c).1
      have h2 := (hgt_bd b).1
      rw [hgt4, hgt4]
      omega
    | same g l l' ts us _ => omega
    | two k g l l' a1 a2 b1 b2 x y _ h5 _ h4 hx hy =>
      have e1 := (shpK_node ha).2
      have e2 := (shpK_node hb).2
      have h2 := ih _ _ _ _ _ hy (e1 a2 (by simp)) (e2 b2 (by simp))
      have h1 : hgt x ≤ max (hgt a1) (hgt b1) := by
        split at hx
        · have := ih _ _ _ _ _ hx (e2 b1 (by simp)) (e1 a1 (by simp))
          omega
        · exact ih _ _ _ _ _ hx (e1 a1 (by simp)) (e2 b1 (by simp))
      have hk : ¬ (k = 4 ∨ k = 5) := by omega
      simp only [hgt, hgtL, if_neg hk]
      omega
end Go.Proofs.Ytolhfcpmhhhjpaa

namespace Go.Proofs.Ytolhfcpmhhhjpaa
open Go.RowKit

theorem typC_up : ∀ (d e : Nat) (c : Co) (f t : Ty), d ≤ e → typC d c f t = true → typC e c f t = true
  | 0, _, _, _, _, _, h => by simp [typC] at h
  | d + 1, 0, _, _, _, hde, _ => by omega
  | d + 1, e + 1, .mk k g l ts, f, t, hde, h => by
    have up := fun (c : Co) (f t : Ty) (h : typC d c f t = true) => typC_up d e c f t (by omega) h
    unfold typC at h ⊢
    by_cases h1 : k = 1
    · rw [if_pos h1] at h ⊢; exact h
    rw [if_neg h1] at h ⊢
    by_cases h2 : k = 2
    · rw [if_pos h2] at h ⊢
      split at h
      · simp only [Bool.and_eq_true] at h ⊢
        exact ⟨h.1, h.2.1, up _ _ _ h.2.2.1, up _ _ _ h.2.2.2⟩
      · cases h
    rw [if_neg h2] at h ⊢
    by_cases h3 : k = 3
    · rw [if_pos h3] at h ⊢
      split at h
      · simp only [Bool.and_eq_true] at h ⊢
        exact ⟨h.1, h.2.1, up _ _ _ h.2.2.1, up _ _ _ h.2.2.2⟩
      · cases h
    rw [if_neg h3] at h ⊢
    by_cases h4 : k = 4
    · rw [if_pos h4] at h ⊢
      split at h
      · simp only [Bool.and_eq_true] at h ⊢
        exact ⟨h.1, h.2.1, up _ _ _ h.2.2⟩
      · cases h
    rw [if_neg h4] at h ⊢
    by_cases h5 : k = 5
    · rw [if_pos h5] at h ⊢
      split at h
      · simp only [Bool.and_eq_true] at h ⊢
        exact ⟨h.1, up _ _ _ h.2⟩
      · cases h
    · rw [if_neg h5] at h ⊢; exact h

/-- The coercion leads from the one type to the other. -/
def Typ (c : Co) (f t : Ty) : Prop := ∃ d, typC d c f t = true

/-- What leads where, by the coercion's kind. -/
inductive TypK : Co → Ty → Ty → Prop
  | id (g l : Int) (ts : List Co) (f t : Ty) (hf : kindT f = g) (ht : kindT t = g) : TypK (.mk 1 g l ts) f t
  | fn (g l : Int) (a b : Co) (f1 f2 t1 t2 : Ty) (ha : Typ a t1 f1) (hb : Typ b f2 t2) : TypK (.mk 2 g l [a, b]) (.mk 4 [f1, f2]) (.mk 4 [t1, t2])
  | pr (g l : Int) (a b : Co) (f1 f2 t1 t2 : Ty) (ha : Typ a f1 t1) (hb : Typ b f2 t2) : TypK (.mk 3 g l [a, b]) (.mk 5 [f1, f2]) (.mk 5 [t1, t2])
  | inj (g l : Int) (a : Co) (f t : Ty) (ht : kindT t = 1) (hf : kindT f = tagC a) (ha : Typ a f (gk (kindT f))) : TypK (.mk 4 g l [a]) f t
  | prj (g l : Int) (a : Co) (f t : Ty) (hf : kindT f = 1) (ha : Typ a (gk (tagC a)) t) : TypK (.mk 5 g l [a]) f t
  | fail (k g l : Int) (ts : List Co) (f t : Ty) (h1 : k ≠ 1) (h2 : k ≠ 2) (h3 : k ≠ 3) (h4 : k ≠ 4) (h5 : k ≠ 5) (hf : kindT f = g) : TypK (.mk k g l ts) f t

theorem typK {c : Co} {f t : Ty} (h : Typ c f t) : TypK c f t := by
  obtain ⟨d, h⟩ := h
  cases d with
  | zero => simp [typC] at h
  | succ d =>
    obtain ⟨k, g, l, ts, rfl⟩ := c.shape
    obtain ⟨kf, fs, rfl⟩ := f.shape
    obtain ⟨kt, us, rfl⟩ := t.shape
    unfold typC at h
    by_cases h1 : k = 1
    · rw [if_pos h1] at h
      subst h1
      simp only [Bool.and_eq_true, beq_iff_eq] at h
      exact .id _ _ _ _ _ h.1 h.2
    rw [if_neg h1] at h
    by_cases h2 : k = 2
    · rw [if_pos h2] at h
      subst h2
      simp only [kidsT', kindT] at h
      split at h
      · simp only [Bool.and_eq_true, beq_iff_eq] at h
        obtain ⟨rfl, rfl, ha, hb⟩ := h
        exact .fn _ _ _ _ _ _ _ _ ⟨d, ha⟩ ⟨d, hb⟩
      · cases h
    rw [if_neg h2] at h
    by_cases h3 : k = 3
    · rw [if_pos h3] at h
      subst h3
      simp only [kidsT', kindT] at h
      split at h
      · simp only [Bool.and_eq_true, beq_iff_eq] at h
        obtain ⟨rfl, rfl, ha, hb⟩ := h
        exact .pr _ _ _ _ _ _ _ _ ⟨d, ha⟩ ⟨d, hb⟩
      · cases h
    rw [if_neg h3] at h
    by_cases h4 : k = 4
    · rw [if_pos h4] at h
      subst h4
      split at h
      · simp only [Bool.and_eq_true, beq_iff_eq] at h
        exact .inj _ _ _ _ _ h.1 h.2.1 ⟨d, h.2.2⟩
      · cases h
    rw [if_neg h4] at h
    by_cases h5 : k = 5
    · rw [if_pos h5] at h
      subst h5
      split at h
      · simp only [Bool.and_eq_true, beq_iff_eq] at h
        exact .prj _ _ _ _ _ h.1 ⟨d, h.2⟩
      · cases h
    · rw [if_neg h5] at h
      exact .fail _ _ _ _ _ _ h1 h2 h3 h4 h5 (by simpa using h)

theorem Typ.id {g l : Int} {ts : List Co} {f t : Ty} (hf : kindT f = g) (ht : kindT t = g) : Typ (.mk 1 g l ts) f t := ⟨1, by simp [typC, hf, ht]⟩
theorem Typ.fail {g l : Int} {ts : List Co} {f t : Ty} (hf : kindT f = g) : Typ (.mk 6 g l ts) f t := ⟨1, by simp [typC, hf]⟩
theorem Typ.fn {g l : Int} {a b : Co} {f1 f2 t1 t2 : Ty} (ha : Typ a t1 f1) (hb : Typ b f2 t2) : Typ (.mk 2 g l [a, b]) (.mk 4 [f1, f2]) (.mk 4 [t1, t2]) := by
  obtain ⟨d, ha⟩ := ha
  obtain ⟨e, hb⟩ := hb
  exact ⟨max d e + 1, by simp [typC, kidsT', kindT, typC_up d (max d e) _ _ _ (Nat.le_max_left _ _) ha, typC_up e (max d e) _ _ _ (Nat.le_max_right _ _) hb]⟩
theorem Typ.pr {g l : Int} {a b : Co} {f1 f2 t1 t2 : Ty} (ha : Typ a f1 t1) (hb : Typ b f2 t2) : Typ (.mk 3 g l [a, b]) (.mk 5 [f1, f2]) (.mk 5 [t1, t2]) := by
  obtain ⟨d, ha⟩ := ha
  obtain ⟨e, hb⟩ := hb
  exact ⟨max d e + 1, by simp [typC, kidsT', kindT, typC_up d (max d e) _ _ _ (Nat.le_max_left _ _) ha, typC_up e (max d e) _ _ _ (Nat.le_max_right _ _) hb]⟩
theorem Typ.inj {g l : Int} {a : Co} {f t : Ty} (ht : kindT t = 1) (hf : kindT f = tagC a) (ha : Typ a f (gk (kindT f))) : Typ (.mk 4 g l [a]) f t := by
  obtain ⟨d, ha⟩ := ha
  rw [hf] at ha
  exact ⟨d + 1, by simp [typC, ht, hf, ha]⟩
theorem Typ.prj {g l : Int} {a : Co} {f t : Ty} (hf : kindT f = 1) (ha : Typ a (gk (tagC a)) t) : Typ (.mk 5 g l [a]) f t := by
  obtain ⟨d, ha⟩ := ha
  exact ⟨d + 1, by simp [typC, hf, ha]⟩

theorem tag_cmp : ∀ (n : Nat) (a b c : Co) (d e : Nat), cmpo n a b = some c → shpK d a = true → shpK e b = true → unkC a = false → tagC c = tagC a
  | 0, _, _, _, _, _, h, _, _, _ => by simp [cmpo] at h
  | n + 1, a, b, c, d, e, h, ha, hb, hu => by
    have ih := tag_cmp n
    obtain ⟨d, rfl⟩ : ∃ d', d = d' + 1 := ⟨d - 1, by cases d with | zero => simp [shpK] at ha | succ d => omega⟩
    obtain ⟨e, rfl⟩ : ∃ d', e = d' + 1 := ⟨e - 1, by cases e with | zero => simp [shpK] at hb | succ d => omega⟩
    cases cmK h with
    | unk l ts _ _ => simp [unkC] at hu
    | prj g l a _ c hr => simp [unkC] at hu
    | fail g l ts _ => rfl
    | meet g l g' l' x y _ ht hr =>
      have hn := (shpK_node ha).1
      have hp : plainC x = true := by
        rcases nodeC_cases hn with ⟨h, _⟩ | ⟨h, _⟩ | ⟨h, _⟩ | ⟨_, _, _, z, hz, hp⟩ | ⟨h, _⟩ | ⟨h, _⟩
        · cases h
        · cases h
        · cases h
        · cases hz; exact hp
        · cases h
        · cases h
      rw [ih _ _ _ _ _ hr ((shpK_node ha).2 x (by simp)) ((shpK_node hb).2 y (by simp)) (plain_notUnk hp)]
      simp [tagC, tagL]
    | clash g l g' l' x y ht => simp [tagC, tagL]
    | injU g l l' ts us => rfl
    | toFail _ k g l g' l' ts us _ _ _ _ _ ht => rw [ht]; simp [tagC]
    | toInj _ k g l g' l' ts b c _ _ _ _ _ hr =>
      have := ih _ _ _ _ _ hr ha ((shpK_node hb).2 b (by simp)) hu
      rw [← this]
      simp [tagC, tagL]
    | same g l l' ts us _ => rfl
    | two k g l l' a1 a2 b1 b2 x y h1 h5 h6 h4 hx hy =>
      rcases nodeC_cases (shpK_node ha).1 with ⟨h, _⟩ | ⟨rfl, _⟩ | ⟨rfl, _⟩ | ⟨h, _⟩ | ⟨h, _⟩ | ⟨h, _⟩
      · exact absurd h h1
      · simp [tagC]
      · simp [tagC]
      · exact absurd h h4
      · exact absurd h h5
      · exact absurd h h6
end Go.Proofs.Ytolhfcpmhhhjpaa

namespace Go.Proofs.Ytolhfcpmhhhjpaa
open Go.RowKit

theorem inv1 {g l : Int} {ts : List Co} {f t : Ty} (h : Typ (.mk 1 g l ts) f t) : kindT f = g ∧ kindT t = g := by
  cases typK h with
  | id _ _ _ _ _ hf ht => exact ⟨hf, ht⟩
  | fail _ _ _ _ _ _ h1 => exact absurd rfl h1
theorem inv2 {g l : Int} {ts : List Co} {f t : Ty} (h : Typ (.mk 2 g l ts) f t) : ∃ a b f1 f2 t1 t2, ts = [a, b] ∧ f = .mk 4 [f1, f2] ∧ t = .mk 4 [t1, t2] ∧ Typ a t1 f1 ∧ Typ b f2 t2 := by
  cases typK h with
  | fn _ _ a b f1 f2 t1 t2 ha hb => exact ⟨a, b, f1, f2, t1, t2, rfl, rfl, rfl, ha, hb⟩
  | fail _ _ _ _ _ _ _ h2 => exact absurd rfl h2
theorem inv3 {g l : Int} {ts : List Co} {f t : Ty} (h : Typ (.mk 3 g l ts) f t) : ∃ a b f1 f2 t1 t2, ts = [a, b] ∧ f = .mk 5 [f1, f2] ∧ t = .mk 5 [t1, t2] ∧ Typ a f1 t1 ∧ Typ b f2 t2 := by
  cases typK h with
  | pr _ _ a b f1 f2 t1 t2 ha hb => exact ⟨a, b, f1, f2, t1, t2, rfl, rfl, rfl, ha, hb⟩
  | fail _ _ _ _ _ _ _ _ h3 => exact absurd rfl h3
theorem inv4 {g l : Int} {ts : List Co} {f t : Ty} (h : Typ (.mk 4 g l ts) f t) : ∃ a, ts = [a] ∧ kindT t = 1 ∧ kindT f = tagC a ∧ Typ a f (gk (kindT f)) := by
  cases typK h with
  | inj _ _ a _ _ ht hf ha => exact ⟨a, rfl, ht, hf, ha⟩
  | fail _ _ _ _ _ _ _ _ _ h4 => exact absurd rfl h4
theorem inv5 {g l : Int} {ts : List Co} {f t : Ty} (h : Typ (.mk 5 g l ts) f t) : ∃ a, ts = [a] ∧ kindT f = 1 ∧ Typ a (gk (tagC a)) t := by
  cases typK h with
  | prj _ _ a _ _ hf ha => exact ⟨a, rfl, hf, ha⟩
  | fail _ _ _ _ _ _ _ _ _ _ h5 => exact absurd rfl h5
theorem inv6 {g l : Int} {ts : List Co} {f t : Ty} (h : Typ (.mk 6 g l ts) f t) : kindT f = g := by
  cases typK h with
  | fail _ _ _ _ _ _ _ _ _ _ _ hf => exact hf

theorem plain_kindV {d : Nat} {k g l : Int} {ts : List Co} {f m : Ty} (h : Typ (.mk k g l ts) f m) (hs : shpK d (.mk k g l ts) = true) (h5 : k ≠ 5) (h6 : k ≠ 6) (h4 : k ≠ 4) : kindT f = tagC (.mk k g l ts) ∧ kindT m = tagC (.mk k g l ts) := by
  cases d with
  | zero => simp [shpK] at hs
  | succ d =>
    rcases nodeC_cases (shpK_node hs).1 with ⟨rfl, _⟩ | ⟨rfl, _⟩ | ⟨rfl, _⟩ | ⟨h, _⟩ | ⟨h, _⟩ | ⟨h, _⟩
    · have := inv1 h
      simpa [tagC] using this
    · obtain ⟨a, b, f1, f2, t1, t2, rfl, rfl, rfl, _, _⟩ := inv2 h
      simp [tagC, kindT]
    · obtain ⟨a, b, f1, f2, t1, t2, rfl, rfl, rfl, _, _⟩ := inv3 h
      simp [tagC, kindT]
    · exact absurd h h4
    · exact absurd h h5
    · exact absurd h h6

theorem typ_cmp : ∀ (n : Nat) (a b c : Co) (d e : Nat) (f m t : Ty), cmpo n a b = some c → shpK d a = true → shpK e b = true → Typ a f m → Typ b m t → Typ c f t
  | 0, _, _, _, _, _, _, _, _, h, _, _, _, _ => by simp [cmpo] at h
  | n + 1, a, b, c, d, e, f, m, t, h, hsa, hsb, ha, hb => by
    have ih := typ_cmp n
    have tg := tag_cmp n
    obtain ⟨d, rfl⟩ : ∃ d', d = d' + 1 := ⟨d - 1, by cases d with | zero => simp [shpK] at hsa | succ d => omega⟩
    obtain ⟨e, rfl⟩ : ∃ d', e = d' + 1 := ⟨e - 1, by cases e with | zero => simp [shpK] at hsb | succ d => omega⟩
    have ka := (shpK_node (d := d) (k := (match a with | .mk k _ _ _ => k)) (g := (match a with | .mk _ g _ _ => g)) (l := (match a with | .mk _ _ l _ => l)) (ts := (match a with | .mk _ _ _ ts => ts)) (by cases a; exact hsa)).2
    have kb := (shpK_node (d := e) (k := (match b with | .mk k _ _ _ => k)) (g := (match b with | .mk _ g _ _ => g)) (l := (match b with | .mk _ _ l _ => l)) (ts := (match b with | .mk _ _ _ ts => ts)) (by cases b; exact hsb)).2
    cases cmK h with
    | unk l ts _ hc =>
      obtain ⟨hf, -⟩ := inv1 ha
      rcases hc with ⟨g, l', us, rfl⟩ | ⟨l', us, rfl⟩
      · obtain ⟨y, rfl, _, hy⟩ := inv5 hb
        exact .prj hf hy
      · exact .id hf (inv1 hb).2
    | prj g l x _ c hr =>
      obtain ⟨x', e', hf, hx⟩ := inv5 ha
      cases e'
      have hu : unkC x = false := by
        rcases nodeC_cases (shpK_node hsa).1 with ⟨h, _⟩ | ⟨h, _⟩ | ⟨h, _⟩ | ⟨h, _⟩ | ⟨_, _, _, z, hz, hp⟩ | ⟨h, _⟩
        · cases h
        · cases h
        · cases h
        · cases h
        · cases hz; exact hp
        · cases h
      have hsx := ka x (by simp)
      refine .prj hf ?_
      rw [tg _ _ _ _ _ hr hsx hsb hu]
      exact ih _ _ _ _ _ _ _ _ hr hsx hsb hx hb
    | fail g l ts _ => exact .fail (inv6 ha)
    | meet g l g' l' x y _ ht hr =>
      obtain ⟨x', e', _, hf, hx⟩ := inv4 ha
      cases e'
      obtain ⟨y', e', _, hy⟩ := inv5 hb
      cases e'
      rw [hf, ht] at hx
      exact ih _ _ _ _ _ _ _ _ hr (ka x (by simp)) (kb y (by simp)) hx hy
    | clash g l g' l' x y ht =>
      obtain ⟨x', e', _, hf, hx⟩ := inv4 ha
      cases e'
      exact .fail hf
    | injU g l l' ts us =>
      obtain ⟨x, rfl, _, hf, hx⟩ := inv4 ha
      exact .inj (inv1 hb).2 hf hx
    | toFail _ k g l g' l' ts us ha' h1 h5 h6 h4 ht =>
      subst ha'
      have := (plain_kindV ha hsa h5 h6 h4).1
      exact .fail (this.trans ht)
    | toInj _ k g l g' l' ts y c ha' h1 h5 h6 h4 hr =>
      subst ha'
      obtain ⟨y', e', hkt, hm, hy⟩ := inv4 hb
      cases e'
      obtain ⟨hf, hm2⟩ := plain_kindV ha hsa h5 h6 h4
      have hsy := kb y (by simp)
      have hu : unkC (.mk k g l ts) = false := by
        simp only [unkC]
        by_cases hk : k = 1
        · subst hk
          have : g ≠ 1 := fun e => h1 ⟨rfl, e⟩
          simp [this]
        · simp [hk, h5]
      refine .inj hkt ?_ ?_
      · rw [tg _ _ _ _ _ hr hsa hsy hu, hf]
      · rw [hf, ← hm2]
        exact ih _ _ _ _ _ _ _ _ hr hsa hsy ha hy
    | same g l l' ts us _ => exact .id (inv1 ha).1 (inv1 hb).2
    | two k g l l' a1 a2 b1 b2 x y h1 h5 h6 h4 hx hy =>
      rcases nodeC_cases (shpK_node hsa).1 with ⟨h, _⟩ | ⟨rfl, _⟩ | ⟨rfl, _⟩ | ⟨h, _⟩ | ⟨h, _⟩ | ⟨h, _⟩
      · exact absurd h h1
      · obtain ⟨_, _, f1, f2, m1, m2, e', rfl, rfl, q1, q2⟩ := inv2 ha
        cases e'
        obtain ⟨_, _, _, _, t1, t2, e', e2, rfl, q3, q4⟩ := inv2 hb
        cases e'
        cases e2
        rw [if_pos rfl] at hx
        exact .fn (ih _ _ _ _ _ _ _ _ hx (kb b1 (by simp)) (ka a1 (by simp)) q3 q1) (ih _ _ _ _ _ _ _ _ hy (ka a2 (by simp)) (kb b2 (by simp)) q2 q4)
      · obtain ⟨_, _, f1, f2, m1, m2, e', rfl, rfl, q1, q2⟩ := inv3 ha
        cases e'
        obtain ⟨_, _, _, _, t1, t2, e', e2, rfl, q3, q4⟩ := inv3 hb
        cases e'
        cases e2
        rw [if_neg (by decide)] at hx
        exact .pr (ih _ _ _ _ _ _ _ _ hx (ka a1 (by simp)) (kb b1 (by simp)) q1 q3) (ih _ _ _ _ _ _ _ _ hy (ka a2 (by simp)) (kb b2 (by simp)) q2 q4)
      · exact absurd h h4
      · exact absurd h h5
      · exact absurd h h6

/-- The depth of the coercion suffices. -/
theorem typ_down : ∀ (d : Nat) (c : Co) (f t : Ty), shpK d c = true → Typ c f t → typC d c f t = true
  | 0, _, _, _, h, _ => by simp [shpK] at h
  | d + 1, .mk k g l ts, f, t, hs, h => by
    have ks := (shpK_node hs).2
    rcases nodeC_cases (shpK_node hs).1 with ⟨rfl, _⟩ | ⟨rfl, _⟩ | ⟨rfl, _⟩ | ⟨rfl, _⟩ | ⟨rfl, _⟩ | ⟨rfl, _⟩
    · have := inv1 h
      simp [typC, this.1, this.2]
    · obtain ⟨a, b, f1, f2, t1, t2, rfl, rfl, rfl, q1, q2⟩ := inv2 h
      simp [typC, kidsT', kindT, typ_down d _ _ _ (ks a (by simp)) q1, typ_down d _ _ _ (ks b (by simp)) q2]
    · obtain ⟨a, b, f1, f2, t1, t2, rfl, rfl, rfl, q1, q2⟩ := inv3 h
      simp [typC, kidsT', kindT, typ_down d _ _ _ (ks a (by simp)) q1, typ_down d _ _ _ (ks b (by simp)) q2]
    · obtain ⟨a, rfl, q1, q2, q3⟩ := inv4 h
      rw [q2] at q3
      simp [typC, q1, q2, typ_down d _ _ _ (ks a (by simp)) q3]
    · obtain ⟨a, rfl, q1, q2⟩ := inv5 h
      simp [typC, q1, typ_down d _ _ _ (ks a (by simp)) q2]
    · have := inv6 h
      simp [typC, this]

theorem ctyp_Typ {c : Co} {f t : Ty} (h : ctyp c f t = true) : Typ c f t := by
  simp only [ctyp, Bool.and_eq_true] at h
  exact ⟨9, h.2.2.2⟩
theorem Typ_ctyp {c : Co} {f t : Ty} (hc : vldK c = true) (hf : vld f = true) (ht : vld t = true) (h : Typ c f t) : ctyp c f t = true := by
  simp only [ctyp, hc, hf, ht, Bool.true_and]
  exact typ_down 9 c f t hc h
end Go.Proofs.Ytolhfcpmhhhjpaa

namespace Go.Proofs.Ytolhfcpmhhhjpaa
open Go.RowKit

mutual
/-- The identity of a type. -/
def idTy : Ty → Co
  | .mk k ts => if k = 4 then .mk 2 0 0 (idTyL ts) else if k = 5 then .mk 3 0 0 (idTyL ts) else .mk 1 k 0 []
def idTyL : List Ty → List Co
  | [] => []
  | t :: ts => idTy t :: idTyL ts
end

theorem idTy_cst : ∀ (n d : Nat) (f : Ty) (l : Int), 2 * d ≤ n → shp d f = true → cst n f f l = idTy f
  | 0, d, f, l, hn, hf => by
    cases d with
    | zero => simp [shp] at hf
    | succ d => omega
  | n + 1, d, f, l, hn, hf => by
    cases d with
    | zero => simp [shp] at hf
    | succ d =>
      obtain ⟨k, ts, rfl⟩ := f.shape
      rcases shp_cases hf with ⟨rfl, hk⟩ | ⟨a, b, rfl, hk, ha, hb⟩
      · rw [cst_id]
        have h4 : k ≠ 4 := by omega
        have h5 : k ≠ 5 := by omega
        simp [idTy, h4, h5]
      · rw [cst_two hk]
        have e1 := idTy_cst n d a (-l) (by omega) ha
        have e2 := idTy_cst n d b l (by omega) hb
        have e3 := idTy_cst n d a l (by omega) ha
        rcases hk with rfl | rfl
        · simp [idTy, idTyL, e1, e2]
        · simp [idTy, idTyL, e2, e3]

end Go.Proofs.Ytolhfcpmhhhjpaa

namespace Go.Proofs.Ytolhfcpmhhhjpaa
open Go.RowKit

theorem hgt_cst : ∀ (n : Nat) (f t : Ty) (l : Int) (d : Nat), fuelOk n d f t → shp d f = true → shp d t = true → cons f t = true → hgt (cst n f t l) ≤ d := by
  intro n
  induction n with
  | zero =>
    intro f t l d hn hf ht
    exfalso
    cases d with
    | zero => simp [shp] at hf
    | succ d => rcases hn with hn | ⟨hn, _⟩ <;> omega
  | succ n ih =>
    intro f t l d hn hf ht hc
    cases cstK hf ht hc with
    | id k h =>
      rw [cst_id]
      cases d with
      | zero => simp [shp] at hf
      | succ d => simp [hgt, hgtL]; omega
    | inj _ h =>
      rw [cst_inj h]
      have hn2 : 2 * d ≤ n + 1 := by
        rcases hn with hn | ⟨_, hk⟩
        · exact hn
        · exact absurd hk h
      have h1 := ih f (gk (kindT f)) l d (.inr ⟨hn2, (kindT_gk _).symm⟩) hf (shp_gk hf) (cons_gk (shp_wf hf)).1
      rw [hgt4]
      omega
    | prj _ h =>
      rw [cst_prj h]
      have hn2 : 2 * d ≤ n + 1 := by
        rcases hn with hn | ⟨_, hk⟩
        · exact hn
        · exact absurd hk.symm h
      have h1 := ih (gk (kindT t)) t l d (.inr ⟨hn2, kindT_gk _⟩) (shp_gk ht) ht (cons_gk (shp_wf ht)).2
      rw [hgt5]
      omega
    | two k f1 f2 t1 t2 h a1 a2 b1 b2 e1 e2 hd1 =>
      have h2 : 2 * (d - 1) ≤ n := by rcases hn with hn | ⟨hn, _⟩ <;> omega
      rw [cst_two h]
      have g2 := ih f2 t2 l (d - 1) (.inl h2) a2 b2 e2
      rcases h with rfl | rfl
      · have g1 := ih t1 f1 (-l) (d - 1) (.inl h2) b1 a1 (cons_symm2 e1)
        simp [hgt, hgtL]
        omega
      · have g1 := ih f1 t1 l (d - 1) (.inl h2) a1 b1 e1
        simp [hgt, hgtL]
        omega

/-- The document's chain of two casts: what their composition says. -/
theorem chain_ok {f m t : Ty} {l l' : Int} {z : Co} (h1 : cstOk f m l = true) (h2 : cstOk m t l' = true) (hz : cmpo 18 (cstOf f m l) (cstOf m t l') = some z) (hv : vldK z = true) : ctyp z f t = true ∧ hgt z ≤ 4 := by
  obtain ⟨a1, a2, a3, a4⟩ := cstOk_parts h1
  obtain ⟨b1, b2, b3, b4⟩ := cstOk_parts h2
  have t1 := ctyp_Typ (ctyp_cst h1)
  have t2 := ctyp_Typ (ctyp_cst h2)
  have v1 := vld_cst h1
  have v2 := vld_cst h2
  refine ⟨Typ_ctyp hv a1 b2 (typ_cmp 18 _ _ _ 9 9 _ _ _ hz v1 v2 t1 t2), ?_⟩
  have hh := hgt_cmp 18 _ _ _ 9 9 hz v1 v2
  rw [cstOf, if_pos h1, cstOf, if_pos h2] at hh
  have g1 := hgt_cst 8 f m l 4 (.inl (by omega)) a1 a2 a3
  have g2 := hgt_cst 8 m t l' 4 (.inl (by omega)) b1 b2 b3
  omega
end Go.Proofs.Ytolhfcpmhhhjpaa

namespace Go.Proofs.Ytolhfcpmhhhjpaa
open Go.RowKit

theorem consU1 (a : Ty) : cons a (.mk 1 []) = true := by cases a; simp [cons]
theorem consU2 (a : Ty) : cons (.mk 1 []) a = true := by cases a; simp [cons]

theorem there : ∀ (d n m : Nat) (a b : Ty) (l : Int), shp d a = true → shp d b = true → isLb l = true → 2 * d ≤ n → 2 * d ≤ m →
    ∃ z, cmpo m (cst n a (.mk 1 []) l) (cst n (.mk 1 []) b l) = some z ∧ shpK n z = true ∧ (a = b → z = idTy a)
  | 0, _, _, a, _, _, ha, _, _, _, _ => by simp [shp] at ha
  | d + 1, 0, _, _, _, _, _, _, _, hn, _ => by omega
  | d + 1, 1, _, _, _, _, _, _, _, hn, _ => by omega
  | d + 1, n + 2, 0, _, _, _, _, _, _, _, hm => by omega
  | d + 1, n + 2, 1, _, _, _, _, _, _, _, hm => by omega
  | d + 1, n + 2, m + 2, a, b, l, ha, hb, hl, hn, hm => by
    have hu : shp (d + 1) (.mk 1 []) = true := shp_leaf (.inl rfl)
    have hau : cons a (.mk 1 []) = true := consU1 a
    have hub : cons (.mk 1 []) b = true := consU2 b
    have sa := shpK_cst (n + 2) a (.mk 1 []) l (d + 1) (.inl (by omega)) ha hu hau hl
    have sb := shpK_cst (n + 2) (.mk 1 []) b l (d + 1) (.inl (by omega)) hu hb hub hl
    by_cases h1 : kindT a = 1
    · -- a is unknown
      obtain ⟨ka, ta, rfl⟩ := a.shape
      simp only [kindT] at h1
      subst h1
      have hta : ta = [] := by
        rcases shp_cases ha with ⟨e, _⟩ | ⟨_, _, _, hk, _⟩
        · exact e
        · omega
      subst hta
      rw [cst_id]
      by_cases h2 : kindT b = 1
      · obtain ⟨kb, tb, rfl⟩ := b.shape
        simp only [kindT] at h2
        subst h2
        have htb : tb = [] := by
          rcases shp_cases hb with ⟨e, _⟩ | ⟨_, _, _, hk, _⟩
          · exact e
          · omega
        subst htb
        rw [cst_id] at sb ⊢
        exact ⟨_, by simp [cmpo, cmpN], sb.1, fun _ => by simp [idTy]⟩
      · rw [cst_prj h2] at sb ⊢
        exact ⟨_, by simp [cmpo, cmpN], sb.1, fun e => absurd (by rw [← e]; rfl) h2⟩
    · rw [cst_inj h1] at sa ⊢
      by_cases h2 : kindT b = 1
      · obtain ⟨kb, tb, rfl⟩ := b.shape
        simp only [kindT] at h2
        subst h2
        have htb : tb = [] := by
          rcases shp_cases hb with ⟨e, _⟩ | ⟨_, _, _, hk, _⟩
          · exact e
          · omega
        subst htb
        rw [cst_id]
        exact ⟨_, by simp [cmpo, cmpN], sa.1, fun e => absurd (by rw [e]; rfl) h1⟩
      · rw [cst_prj h2]
        have ga := tag_cst (n + 1) a (gk (kindT a)) l (d + 1) (.inr ⟨by omega, (kindT_gk _).symm⟩) ha (shp_gk ha) (cons_gk (shp_wf ha)).1 (kindT_gk _).symm h1
        have gb := tag_cst (n + 1) (gk (kindT b)) b l (d + 1) (.inr ⟨by omega, kindT_gk _⟩) (shp_gk hb) hb (cons_gk (shp_wf hb)).2 (kindT_gk _) (by rw [kindT_gk]; exact h2)
        rw [kindT_gk] at gb
        by_cases hk : kindT a = kindT b
        · -- the same ground type
          have key : cmpo (m + 2) (.mk 4 0 0 [cst (n + 1) a (gk (kindT a)) l]) (.mk 5 0 l [cst (n + 1) (gk (kindT b)) b l]) = cmpo (m + 1) (cst (n + 1) a (gk (kindT a)) l) (cst (n + 1) (gk (kindT b)) b l) := by
            have e : tagC (cst (n + 1) a (gk (kindT a)) l) = tagC (cst (n + 1) (gk (kindT b)) b l) := by rw [ga, gb, hk]
            show cmpN (cmpo (m + 1)) _ _ = _
            simp only [cmpN]
            rw [if_neg (by decide), if_neg (by decide), if_neg (by decide)]
            simp only [if_true, one1_one]
            rw [if_pos e]
          rw [key]
          obtain ⟨k, ts, rfl⟩ := a.shape
          obtain ⟨k', us, rfl⟩ := b.shape
          simp only [kindT] at hk h1 h2 ⊢
          subst hk
          rcases shp_cases ha with ⟨rfl, hk1⟩ | ⟨a1, a2, rfl, hk1, hs1, hs2⟩
          · have hus : us = [] := by
              rcases shp_cases hb with ⟨e, _⟩ | ⟨_, _, _, hk2, _⟩
              · exact e
              · omega
            subst hus
            have eg : gk k = .mk k [] := by unfold gk; rw [if_neg (by omega)]
            rw [eg, cst_id]
            refine ⟨.mk 1 k 0 [], by simp [cmpo, cmpN, h1], ?_, fun _ => ?_⟩
            · have : k = 2 ∨ k = 3 := by omega
              rcases this with rfl | rfl <;> rfl
            · have h4 : k ≠ 4 := by omega
              have h5 : k ≠ 5 := by omega
              simp [idTy, h4, h5]
          · rcases shp_cases hb with ⟨rfl, hk2⟩ | ⟨b1, b2, rfl, hk2, hs3, hs4⟩
            · omega
            have eg : gk k = .mk k [.mk 1 [], .mk 1 []] := by unfold gk; rw [if_pos hk1]
            rw [eg, cst_two hk1, cst_two hk1]
            obtain ⟨y, hy, sy, ey⟩ := there d n m a2 b2 l hs2 hs4 hl (by omega) (by omega)
            rcases hk1 with rfl | rfl
            · obtain ⟨x, hx, sx, ex⟩ := there d n m b1 a1 (-l) hs3 hs1 (isLb_neg hl) (by omega) (by omega)
              refine ⟨.mk 2 0 0 [x, y], by simp [cmpo, cmpN, hx, hy, bothC], ?_, fun e => ?_⟩
              · have px := shpK_up (show n ≤ n + 1 by omega) sx
                have py := shpK_up (show n ≤ n + 1 by omega) sy
                simp [shpK, nodeC] at px py ⊢
                exact ⟨px, py⟩
              · simp only [Ty.mk.injEq, List.cons.injEq, true_and, and_true] at e
                obtain ⟨rfl, rfl⟩ := e
                simp [idTy, idTyL, ex rfl, ey rfl]
            · obtain ⟨x, hx, sx, ex⟩ := there d n m a1 b1 l hs1 hs3 hl (by omega) (by omega)
              refine ⟨.mk 3 0 0 [x, y], by simp [cmpo, cmpN, hx, hy, bothC], ?_, fun e => ?_⟩
              · have px := shpK_up (show n ≤ n + 1 by omega) sx
                have py := shpK_up (show n ≤ n + 1 by omega) sy
                simp [shpK, nodeC] at px py ⊢
                exact ⟨px, py⟩
              · simp only [Ty.mk.injEq, List.cons.injEq, true_and, and_true] at e
                obtain ⟨rfl, rfl⟩ := e
                simp [idTy, idTyL, ex rfl, ey rfl]
        · -- different ground types
          have e : tagC (cst (n + 1) a (gk (kindT a)) l) ≠ tagC (cst (n + 1) (gk (kindT b)) b l) := by rw [ga, gb]; exact hk
          refine ⟨.mk 6 (kindT a) l [], ?_, ?_, fun e => absurd (by rw [e]) hk⟩
          · show cmpN (cmpo (m + 1)) _ _ = _
            simp only [cmpN]
            rw [if_neg (by decide), if_neg (by decide), if_neg (by decide)]
            simp only [if_true, one1_one]
            rw [if_neg e, ga]
          · obtain ⟨k, ts, rfl⟩ := a.shape
            simp only [kindT] at h1 ⊢
            have : 2 ≤ k ∧ k ≤ 5 := by
              rcases shp_cases ha with ⟨_, hk1⟩ | ⟨_, _, _, hk1, _⟩ <;> omega
            simp [shpK, nodeC, hl, this.1, this.2]

theorem idTy_cstOf {a : Ty} {l : Int} (h : cstOk a a l = true) : cstOf a a l = idTy a := by
  obtain ⟨h1, _, _, _⟩ := cstOk_parts h
  rw [cstOf, if_pos h, idTy_cst 8 4 a l (by omega) h1]
end Go.Proofs.Ytolhfcpmhhhjpaa

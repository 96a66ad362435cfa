/- The program's check by consistency gives the document's types, and these are valid. -/
import Derived.Test.YtffmpjcjmffdeaaDoorQG15
namespace Go.Proofs.YtffmpjcjmffdeaaDoor
open Go.RowKit

/-- Operands stay where their types are consistent with the wanted ones. -/
def consF : FitF := fun s e has want => (if consOf has want = true then some e else none, s)

theorem shp_up9 : ∀ (d : Nat) (t : Ty), shp d t = true → shp (d + 1) t = true
  | 0, _, h => by simp [shp] at h
  | d + 1, .mk k ts, h => by
    simp only [shp, Bool.and_eq_true, List.all_eq_true] at h ⊢
    exact ⟨h.1, fun t ht => by have := shp_up9 d t (h.2 t ht); simpa only [shp] using this⟩

theorem consOf_self {u : Ty} (h : vld u = true) : consOf u u = true := by
  simp only [consOf, h, Bool.true_and]
  exact prec_cons 4 u u h h (prec_refl8 4 u h)

theorem consOf_eq {u v : Ty} (h : vld u = true) (h' : vld v = true) : consOf u v = cons u v := by simp [consOf, h, h']

theorem vld_I : vld tI = true := by decide
theorem vld_B : vld tB = true := by decide

theorem vld_kid {k : Int} {ts : List Ty} (h : vld (.mk k ts) = true) {t : Ty} (ht : t ∈ ts) : vld t = true := by
  simp only [vld, shp, Bool.and_eq_true, List.all_eq_true] at h
  exact shp_up9 3 t (h.2 t ht)

theorem mt_parts {q : Int} (hq : q = 4 ∨ q = 5) {u : Ty} (h : mtOk q u = true) :
    vld (mtOf q 0 u) = true ∧ vld (mtOf q 1 u) = true ∧ consOf u (.mk q [mtOf q 0 u, mtOf q 1 u]) = true := by
  obtain ⟨k, ts, rfl⟩ := u.shape
  have h0 := h
  simp only [mtOk, Bool.and_eq_true, Bool.or_eq_true, beq_iff_eq, knd] at h0
  obtain ⟨hv, hk⟩ := h0
  by_cases h1 : k = 1
  · subst h1
    rw [(mt_any hv).2, (mt_any hv).2]
    have hq1 : vld (.mk q [.mk 1 [], .mk 1 []]) = true := by rcases hq with rfl | rfl <;> decide
    refine ⟨by decide, by decide, ?_⟩
    simp [consOf, hv, hq1, cons]
  · have hkq : k = q := by rcases hk with hk | hk; exact absurd hk h1; exact hk
    subst hkq
    obtain ⟨a, b, rfl⟩ := two_of hq hv
    obtain ⟨-, ha, hb⟩ := mt_two hq hv
    rw [ha, hb]
    exact ⟨vld_kid hv (by simp), vld_kid hv (by simp), consOf_self hv⟩

theorem meetOf_fit {a b : Ty} (h : consOf a b = true) : vld (meetOf a b) = true ∧ consOf a (meetOf a b) = true ∧ consOf b (meetOf a b) = true ∧ meetOf a b = meet a b := by
  obtain ⟨h1, h2, h3, -, -, -, -⟩ := meetOf_glb a b h
  have hv := h
  simp only [consOf, Bool.and_eq_true] at hv
  have hp : ∀ c, vld c = true → precOf (meetOf a b) c = true → consOf c (meetOf a b) = true := fun c hc hpc => by
    simp only [precOf, Bool.and_eq_true] at hpc
    rw [consOf_eq hc h1]
    exact cons_comm8 4 _ _ h1 hc (prec_cons 4 _ _ h1 hc hpc.2)
  exact ⟨h1, hp a hv.1.1 h2, hp b hv.1.2 h3, by unfold meetOf; rw [if_pos h]⟩

theorem fit1 (e : Tm) (u v : Ty) (s : Int) : fitL consF [e] [u] [v] s = (if consOf u v = true then some [e] else none, s) := by
  simp only [fitL, consF]
  by_cases h : consOf u v = true <;> simp [h]

theorem fit2 (e e' : Tm) (u u' v v' : Ty) (s : Int) : fitL consF [e, e'] [u, u'] [v, v'] s = (if (consOf u v && consOf u' v') = true then some [e, e'] else none, s) := by
  simp only [fitL, consF]
  by_cases h : consOf u v = true
  · by_cases h' : consOf u' v' = true <;> simp [h, h']
  · simp [h]

theorem fit3 (e e' e2 : Tm) (u u' u2 v v' v2 : Ty) (s : Int) : fitL consF [e, e', e2] [u, u', u2] [v, v', v2] s = (if (consOf u v && (consOf u' v' && consOf u2 v2)) = true then some [e, e', e2] else none, s) := by
  simp only [fitL, consF]
  by_cases h : consOf u v = true
  · by_cases h' : consOf u' v' = true
    · by_cases h2 : consOf u2 v2 = true <;> simp [h, h', h2]
    · simp [h, h']
  · simp [h]

/-- What a node says. -/
def NodOk (o : Option (Tm × Ty) × Int) (r : Option Ty) (s : Int) : Prop := ∃ p, o = (p, s) ∧ p.map Prod.snd = r ∧ ∀ u, r = some u → vld u = true

theorem NodOk.no (s : Int) : NodOk (none, s) none s := ⟨none, rfl, rfl, fun _ h => by cases h⟩
theorem NodOk.yes {e : Tm} {u : Ty} (s : Int) (h : vld u = true) : NodOk (some (e, u), s) (some u) s := ⟨_, rfl, rfl, fun v hv => by cases hv; exact h⟩

theorem NodOk.two {F : FitF} {k : Int} {nm : ByteArray} {num : Int} {ty fr : Ty} {lb : Int} {es : List Tm} {us : List Ty} {s q : Int} {a b : Ty}
    (hf : fitL F es us us s = (some es, s)) :
    NodOk (if vld (.mk q [a, b]) = true then (match fitL F es us us s with
      | (none, s1) => (none, s1)
      | (some es', s1) => (some (outM k nm num ty fr lb es', (.mk q [a, b] : Ty)), s1)) else (none, s)) (twoV q a b) s := by
  rw [hf]
  unfold twoV
  by_cases h : vld (.mk q [a, b]) = true
  · rw [if_pos h, if_pos h]; exact NodOk.yes s h
  · rw [if_neg h, if_neg h]; exact NodOk.no s

theorem chN_ok (xs : List Bd) (hx : ∀ x ∈ xs, vld x.ty = true) (k : Int) (nm : ByteArray) (num : Int) (ty fr : Ty) (lb : Int) (es : List Tm) (us : List Ty) (s : Int)
    (hk : kidsM k = (us.length : Int)) (hl : es.length = us.length) (h14 : k ≠ 14) (ho : ownM k nm num ty fr lb = true) (hu : ∀ u ∈ us, vld u = true) :
    NodOk (chN consF xs k nm num ty fr lb es us s) (nodT xs k nm ty us) s := by
  have hlook : ∀ u, look xs nm = some u → vld u = true := by
    clear hk hl ho
    induction xs with
    | nil => intro u h; cases h
    | cons x xs ih =>
      intro u h
      rw [look] at h
      by_cases hn : x.nm = nm
      · rw [if_pos hn] at h
        cases h
        exact hx x (by simp)
      · rw [if_neg hn] at h
        exact ih (fun y hy => hx y (by simp [hy])) u h
  have n0 : ∀ {n : Nat}, us.length = n → es.length = n := fun h => hl.trans h
  unfold chN nodT
  by_cases h1 : k = 1
  · subst h1
    have hl0 : us.length = 0 := by have : kidsM 1 = 0 := (by decide); omega
    obtain rfl := List.length_eq_zero_iff.1 hl0
    obtain rfl := List.length_eq_zero_iff.1 (n0 hl0)
    simp only [ruleM, if_true]
    cases hlk : look xs nm with
    | none => exact NodOk.no s
    | some t =>
      simp only [Option.map_some, fitL]
      rw [if_pos (hlook t hlk)]
      exact NodOk.yes s (hlook t hlk)
  by_cases h2 : k = 2
  · subst h2
    have hl0 : us.length = 0 := by have : kidsM 2 = 0 := (by decide); omega
    obtain rfl := List.length_eq_zero_iff.1 hl0
    obtain rfl := List.length_eq_zero_iff.1 (n0 hl0)
    simp only [ruleM, fitL, if_true]
    exact NodOk.yes s vld_I
  by_cases h3 : k = 3 ∨ k = 4
  · have hl0 : us.length = 0 := by
      have : kidsM k = 0 := by rcases h3 with rfl | rfl <;> decide
      omega
    obtain rfl := List.length_eq_zero_iff.1 hl0
    obtain rfl := List.length_eq_zero_iff.1 (n0 hl0)
    simp only [ruleM, if_neg h1, if_neg h2, if_pos h3, fitL, vld_B, if_true]
    exact NodOk.yes s vld_B
  by_cases h5 : k = 5
  · subst h5
    have hl0 : us.length = 1 := by have : kidsM 5 = 1 := (by decide); omega
    obtain ⟨u, rfl⟩ := List.length_eq_one_iff.1 hl0
    obtain ⟨e, rfl⟩ := List.length_eq_one_iff.1 (n0 hl0)
    have hu0 := hu u (by simp)
    exact NodOk.two (k := 5) (q := 4) (by rw [fit1, if_pos (consOf_self hu0)])
  have hnod : nodT xs k nm ty us = resM k ty us := by simp [nodT, h1, h2, h3, h5]
  have two : kidsM k = 2 → ∃ u u' e e', us = [u, u'] ∧ es = [e, e'] := fun h => by
    have hl0 : us.length = 2 := by omega
    match us, hl0 with
    | [u, u'], _ => match es, n0 rfl with
      | [e, e'], _ => exact ⟨_, _, _, _, rfl, rfl⟩
  have one : kidsM k = 1 → ∃ u e, us = [u] ∧ es = [e] := fun h => by
    have hl0 : us.length = 1 := by omega
    obtain ⟨u, rfl⟩ := List.length_eq_one_iff.1 hl0
    obtain ⟨e, rfl⟩ := List.length_eq_one_iff.1 (n0 hl0)
    exact ⟨_, _, rfl, rfl⟩
  simp only [if_neg h1, if_neg h2, if_neg h3, if_neg h5]
  by_cases h6 : k = 6
  · subst h6
    obtain ⟨u, u', e, e', rfl, rfl⟩ := two (by decide)
    have hu0 := hu u (by simp)
    have hu1 := hu u' (by simp)
    simp only [ruleM, resM, nth, List.getD_cons_zero, List.getD_cons_succ, if_true, if_neg h1, if_neg h2, if_neg h3, if_neg h5]
    by_cases hm : mtOk 4 u = true
    · obtain ⟨p1, p2, p3⟩ := mt_parts (.inl rfl) hm
      rw [if_pos hm]
      simp only [p2, if_true, fit2, p3, Bool.true_and, consOf_eq hu1 p1, hm]
      by_cases hc : cons u' (mtOf 4 0 u) = true
      · simp only [hc, if_true]
        exact NodOk.yes s p2
      · simp only [hc, Bool.false_eq_true, if_false]
        exact NodOk.no s
    · have hm' : mtOk 4 u = false := by simpa using hm
      simp only [hm', Bool.false_and, Bool.false_eq_true, if_false]
      exact NodOk.no s
  by_cases h7 : k = 7
  · subst h7
    obtain ⟨u, u', e, e', rfl, rfl⟩ := two (by decide)
    have hu0 := hu u (by simp)
    have hu1 := hu u' (by simp)
    simp only [ruleM, resM, nth, List.getD_cons_zero, List.getD_cons_succ, if_true, if_neg h1, if_neg h2, if_neg h3, if_neg h5, if_neg h6, vld_I, fit2, consOf_eq hu0 vld_I, consOf_eq hu1 vld_I]
    by_cases hc : (cons u tI && cons u' tI) = true
    · simp only [hc, if_true]
      exact NodOk.yes s vld_I
    · simp only [hc, Bool.false_eq_true, if_false]
      exact NodOk.no s
  by_cases h8 : k = 8
  · subst h8
    obtain ⟨u, u', e, e', rfl, rfl⟩ := two (by decide)
    have hu0 := hu u (by simp)
    have hu1 := hu u' (by simp)
    simp only [ruleM, resM, nth, List.getD_cons_zero, List.getD_cons_succ, if_true, if_neg h1, if_neg h2, if_neg h3, if_neg h5, if_neg h6, if_neg h7, vld_B, fit2, consOf_eq hu0 vld_I, consOf_eq hu1 vld_I]
    by_cases hc : (cons u tI && cons u' tI) = true
    · simp only [hc, if_true]
      exact NodOk.yes s vld_B
    · simp only [hc, Bool.false_eq_true, if_false]
      exact NodOk.no s
  by_cases h9 : k = 9
  · subst h9
    have hl0 : us.length = 3 := by have : kidsM 9 = 3 := (by decide); omega
    obtain ⟨u, u', u2, rfl⟩ : ∃ a b c, us = [a, b, c] := by
      match us, hl0 with
      | [a, b, c], _ => exact ⟨_, _, _, rfl⟩
    obtain ⟨e, e', e2, rfl⟩ : ∃ a b c, es = [a, b, c] := by
      match es, n0 hl0 with
      | [a, b, c], _ => exact ⟨_, _, _, rfl⟩
    have hu0 := hu u (by simp)
    have hu1 := hu u' (by simp)
    have hu2 := hu u2 (by simp)
    simp only [ruleM, resM, nth, List.getD_cons_zero, List.getD_cons_succ, if_true, if_neg h1, if_neg h2, if_neg h3, if_neg h5, if_neg h6, if_neg h7, if_neg h8]
    by_cases hm : consOf u' u2 = true
    · obtain ⟨p1, p2, p3, p4⟩ := meetOf_fit hm
      have hc1 : cons u' u2 = true := by rw [← consOf_eq hu1 hu2]; exact hm
      simp only [if_pos hm, p1, if_true, fit3, p2, p3, Bool.and_true, hc1, Bool.true_and, consOf_eq hu0 vld_B]
      by_cases hc : cons u tB = true
      · simp only [hc, if_true]
        rw [← p4]
        exact NodOk.yes s p1
      · simp only [hc, Bool.false_eq_true, if_false]
        exact NodOk.no s
    · have hc1 : cons u' u2 = false := by rw [← consOf_eq hu1 hu2]; simpa using hm
      simp only [if_neg hm, hc1, Bool.false_and, Bool.false_eq_true, if_false]
      exact NodOk.no s
  by_cases h10 : k = 10
  · subst h10
    obtain ⟨u, u', e, e', rfl, rfl⟩ := two (by decide)
    have hu0 := hu u (by simp)
    have hu1 := hu u' (by simp)
    exact NodOk.two (k := 10) (q := 5) (by rw [fit2, consOf_self hu0, consOf_self hu1]; rfl)
  by_cases h11 : k = 11
  · subst h11
    obtain ⟨u, e, rfl, rfl⟩ := one (by decide)
    simp only [ruleM, resM, nth, List.getD_cons_zero, if_true, if_neg h1, if_neg h2, if_neg h3, if_neg h5, if_neg h6, if_neg h7, if_neg h8, if_neg h9, if_neg h10]
    by_cases hm : mtOk 5 u = true
    · obtain ⟨p1, p2, p3⟩ := mt_parts (.inr rfl) hm
      simp only [if_pos hm, p1, if_true, fit1, p3]
      exact NodOk.yes s p1
    · simp only [if_neg hm]
      exact NodOk.no s
  by_cases h12 : k = 12
  · subst h12
    obtain ⟨u, e, rfl, rfl⟩ := one (by decide)
    simp only [ruleM, resM, nth, List.getD_cons_zero, if_true, if_neg h1, if_neg h2, if_neg h3, if_neg h5, if_neg h6, if_neg h7, if_neg h8, if_neg h9, if_neg h10, if_neg h11]
    by_cases hm : mtOk 5 u = true
    · obtain ⟨p1, p2, p3⟩ := mt_parts (.inr rfl) hm
      simp only [if_pos hm, p2, if_true, fit1, p3]
      exact NodOk.yes s p2
    · simp only [if_neg hm]
      exact NodOk.no s
  by_cases h13 : k = 13
  · subst h13
    obtain ⟨u, e, rfl, rfl⟩ := one (by decide)
    have hu0 := hu u (by simp)
    have hty : vld ty = true := by
      simp only [ownM, Bool.and_eq_true] at ho
      simpa using ho.1.1.2
    simp only [ruleM, resM, nth, List.getD_cons_zero, if_true, if_neg h1, if_neg h2, if_neg h3, if_neg h5, if_neg h6, if_neg h7, if_neg h8, if_neg h9, if_neg h10, if_neg h11, if_neg h12, hty, fit1, consOf_eq hu0 hty]
    by_cases hc : cons u ty = true
    · simp only [hc, if_true]
      exact NodOk.yes s hty
    · simp only [hc, Bool.false_eq_true, if_false]
      exact NodOk.no s
  · have : kidsM k = -1 := by unfold kidsM; rw [if_neg (by omega), if_neg (by omega), if_neg (by omega), if_neg (by omega)]
    omega

theorem inS_vld {xs : List Bd} {k : Int} {nm : ByteArray} {num : Int} {ty fr : Ty} {lb : Int} (hx : ∀ x ∈ xs, vld x.ty = true) (ho : ownM k nm num ty fr lb = true) : ∀ x ∈ inS xs k nm ty, vld x.ty = true := by
  intro x h
  unfold inS at h
  by_cases h5 : k = 5
  · rw [if_pos h5] at h
    rcases List.mem_cons.1 h with rfl | h
    · subst h5
      simp only [ownM, Bool.and_eq_true] at ho
      simpa using ho.1.1.2
    · exact hx x h
  · rw [if_neg h5] at h
    exact hx x h

mutual
theorem chM_ok : ∀ (t : Tm) (d : Nat) (xs : List Bd) (s : Int), shpM d t = true → (∀ x ∈ xs, vld x.ty = true) → NodOk (chM consF xs t s) (tyM xs t) s
  | .mk k nm num ty fr lb ts, d, xs, s, h, hx => by
    cases d with
    | zero => simp [shpM] at h
    | succ d =>
      simp only [shpM, Bool.and_eq_true, beq_iff_eq, bne_iff_ne, ne_eq, List.all_eq_true] at h
      obtain ⟨⟨⟨hk, h14⟩, ho⟩, hts⟩ := h
      have hi := inS_vld hx ho
      simp only [chM, tyM]
      obtain ⟨p, h1, h2, h3⟩ := chL_ok ts d (inS xs k nm ty) s hts hi
      rw [h1]
      cases p with
      | none =>
        simp only [Option.map_none] at h2
        rw [← h2]
        exact NodOk.no s
      | some ps =>
        simp only [Option.map_some] at h2
        rw [← h2]
        simp only [Option.bind_some]
        have hlen := chL_len h1
        exact chN_ok xs hx k nm num ty fr lb _ _ s (by rw [List.length_map, hlen]; exact hk) (by rw [List.length_map, List.length_map]) h14 ho (h3 _ h2.symm)
theorem chL_ok : ∀ (ts : List Tm) (d : Nat) (xs : List Bd) (s : Int), (∀ t ∈ ts, shpM d t = true) → (∀ x ∈ xs, vld x.ty = true) →
    ∃ p, chL consF xs ts s = (p, s) ∧ p.map (List.map Prod.snd) = tyL xs ts ∧ ∀ us, tyL xs ts = some us → ∀ u ∈ us, vld u = true
  | [], d, xs, s, _, _ => ⟨some [], rfl, rfl, fun us h u hu => by simp only [tyL, Option.some.injEq] at h; subst h; cases hu⟩
  | t :: ts, d, xs, s, h, hx => by
    obtain ⟨p, h1, h2, h3⟩ := chM_ok t d xs s (h t (by simp)) hx
    obtain ⟨q, g1, g2, g3⟩ := chL_ok ts d xs s (fun u hu => h u (by simp [hu])) hx
    simp only [chL, tyL]
    rw [h1]
    cases p with
    | none =>
      simp only [Option.map_none] at h2
      rw [← h2]
      exact ⟨none, rfl, rfl, fun us h => by simp at h⟩
    | some p =>
      simp only [Option.map_some] at h2
      simp only
      rw [g1, ← h2]
      cases q with
      | none =>
        simp only [Option.map_none] at g2
        rw [← g2]
        exact ⟨none, rfl, rfl, fun us h => by simp at h⟩
      | some q =>
        simp only [Option.map_some] at g2
        rw [← g2]
        refine ⟨_, rfl, rfl, fun us hus u hu => ?_⟩
        simp only [Option.bind_some, Option.map_some, Option.some.injEq] at hus
        subst hus
        rcases List.mem_cons.1 hu with rfl | hu
        · exact h3 _ h2.symm
        · exact g3 _ g2.symm u hu
end
end Go.Proofs.YtffmpjcjmffdeaaDoor

/- Erasure, plainly: valid, idempotent, all types unknown, names and nodes as before. -/
import Derived.Test.YtffmpjcjmffdeaaDoorVErA
import Derived.Test.YtffmpjcjmffdeaaDoorVPkE
import Derived.Test.YtffmpjcjmffdeaaDoorVG5
namespace Go.Proofs.YtffmpjcjmffdeaaDoor
open Go.RowKit

mutual
/-- A term with the unknown type for each of its types. -/
def er9 : Tm → Tm
  | .mk k nm num ty fr lb ts => .mk k nm num (if hasTy k then .mk 1 [] else ty) fr lb (er9L ts)
def er9L : List Tm → List Tm
  | [] => []
  | t :: ts => er9 t :: er9L ts
end

mutual
theorem wiT_er9 : ∀ (t : Tm) (n : Nat), wiT (fun _ => .mk 1 []) n t = er9 t
  | .mk k nm num ty fr lb ts, n => by simp only [wiT, er9, wiL_er9 ts]
theorem wiL_er9 : ∀ (ts : List Tm) (n : Nat), wiL (fun _ => .mk 1 []) n ts = er9L ts
  | [], _ => by simp only [wiL, er9L]
  | t :: ts, n => by simp only [wiL, er9L, wiT_er9 t, wiL_er9 ts]
end

theorem erT_er9 {t : Tm} (h : vldM t = true) : erT t = er9 t := by
  simp only [erT, h, if_true, wiT_er9]

theorem er9L_length : ∀ ts : List Tm, (er9L ts).length = ts.length
  | [] => by simp [er9L]
  | t :: ts => by simp [er9L, er9L_length ts]

theorem er9L_all {p : Tm → Bool} : ∀ {ts : List Tm}, (∀ t ∈ ts, p (er9 t) = true) → (er9L ts).all p = true
  | [], _ => rfl
  | t :: ts, h => by
    simp only [er9L, List.all_cons, Bool.and_eq_true]
    exact ⟨h t (by simp), er9L_all (fun u hu => h u (by simp [hu]))⟩

theorem er9L_sum {f : Tm → Int} : ∀ {ts : List Tm}, (∀ t ∈ ts, f (er9 t) = f t) → sumL f (er9L ts) = sumL f ts
  | [], _ => rfl
  | t :: ts, h => by
    simp only [er9L, sumL]
    rw [h t (by simp), er9L_sum (fun u hu => h u (by simp [hu]))]

theorem er9_shp : ∀ (d : Nat) (t : Tm), shpM d t = true → shpM d (er9 t) = true
  | 0, _, h => by simp [shpM] at h
  | d + 1, .mk k nm num ty fr lb ts, h => by
    simp only [shpM, Bool.and_eq_true, List.all_eq_true] at h
    obtain ⟨⟨⟨h1, h2⟩, h3⟩, h4⟩ := h
    have h5 : ownM k nm num (if hasTy k then .mk 1 [] else ty) fr lb = true := by
      by_cases hk : k = 5 ∨ k = 13
      · have hv : vld (.mk 1 []) = true := by decide
        simp only [ownM, Bool.and_eq_true] at h3 ⊢
        obtain ⟨⟨⟨a1, a2⟩, a3⟩, a4⟩ := h3
        refine ⟨⟨⟨a1, ?_⟩, a3⟩, a4⟩
        rw [if_pos (by omega)]
        simp only [hasTy, hk, decide_true, if_true, hv]
      · simp only [hasTy, hk, decide_false, Bool.false_eq_true, if_false]
        exact h3
    simp only [er9, shpM, Bool.and_eq_true, er9L_length]
    exact ⟨⟨⟨h1, h2⟩, h5⟩, er9L_all (fun t ht => er9_shp d t (h4 t ht))⟩

theorem er9_cntD : ∀ (d : Nat) (t : Tm), cntD d (er9 t) = cntD d t
  | 0, _ => rfl
  | d + 1, .mk k nm num ty fr lb ts => by
    simp only [er9, cntD]
    rw [er9L_sum (fun t _ => er9_cntD d t)]

theorem er9_vld {t : Tm} (h : vldM t = true) : vldM (er9 t) = true := by
  simp only [vldM, Bool.and_eq_true] at h ⊢
  exact ⟨er9_shp 12 t h.1, by rw [er9_cntD]; exact h.2⟩

mutual
theorem er9_er9 : ∀ t : Tm, er9 (er9 t) = er9 t
  | .mk k nm num ty fr lb ts => by
    simp only [er9, er9L_er9L ts]
    split <;> rfl
theorem er9L_er9L : ∀ ts : List Tm, er9L (er9L ts) = er9L ts
  | [] => rfl
  | t :: ts => by simp only [er9L, er9_er9 t, er9L_er9L ts]
end

mutual
theorem er9_tysAll : ∀ (t : Tm) (u : Ty), u ∈ tysOf (er9 t) → u = .mk 1 []
  | .mk k nm num ty fr lb ts, u, h => by
    simp only [er9, tysOf] at h
    rcases List.mem_append.1 h with h | h
    · split at h
      · rename_i hk
        simp only [hasTy, hk, decide_true, if_true] at h
        simpa using h
      · cases h
    · exact er9L_tysAll ts u h
theorem er9L_tysAll : ∀ (ts : List Tm) (u : Ty), u ∈ tysL (er9L ts) → u = .mk 1 []
  | [], u, h => by simp [er9L, tysL] at h
  | t :: ts, u, h => by
    simp only [er9L, tysL] at h
    rcases List.mem_append.1 h with h | h
    · exact er9_tysAll t u h
    · exact er9L_tysAll ts u h
end

mutual
theorem er9_fr : ∀ (t : Tm) (b a : Nat), frN b a (er9 t) = frN b a t
  | .mk k nm num ty fr lb ts, b, a => by
    simp only [er9, frN]
    exact er9L_fr ts _ _
theorem er9L_fr : ∀ (ts : List Tm) (b a : Nat), frL b a (er9L ts) = frL b a ts
  | [], b, a => rfl
  | t :: ts, b, a => by
    simp only [er9L, frL, er9_fr t]
    exact er9L_fr ts _ _
end

mutual
theorem er9_sz : ∀ t : Tm, (er9 t).sz ≤ t.sz
  | .mk k nm num ty fr lb ts => by
    have h1 := (er9L_sz ts).1
    have h2 := (er9L_sz ts).2
    have h3 : (Ty.mk 1 []).cnt = 0 := by simp [Ty.cnt, cntL]
    simp only [er9, Tm.sz]
    split
    · rw [h3]; omega
    · omega
theorem er9L_sz : ∀ ts : List Tm, szML (er9L ts) ≤ szML ts ∧ (er9L ts).length = ts.length
  | [] => by simp [er9L]
  | t :: ts => by
    have h1 := er9_sz t
    have h2 := (er9L_sz ts).1
    have h3 := (er9L_sz ts).2
    simp only [er9L, szML, List.length_cons]
    omega
end

theorem erT_sz9 (t : Tm) : (erT t).sz ≤ t.sz := by
  by_cases h : vldM t = true
  · rw [erT_er9 h]
    exact er9_sz t
  · have h' : vldM t = false := by simpa using h
    have e : erT t = zTm := by simp [erT, h']
    rw [e]
    have : (zTm).sz = 0 := by simp [zTm, Tm.sz, szML, Ty.cnt, cntL, show ByteArray.empty.size = 0 from rfl]
    omega

/-- All that the law on erasures asks. -/
theorem er_facts {t : Tm} (h : vldM t = true) : vldM (erT t) = true ∧ erT (erT t) = erT t ∧ (∀ u ∈ tyLst (erT t), u = .mk 1 []) ∧ freeS (erT t) = freeS t ∧ cntN (erT t) = cntN t := by
  rw [erT_er9 h]
  have hv := er9_vld h
  refine ⟨hv, ?_, fun u hu => ?_, ?_, ?_⟩
  · rw [erT_er9 hv, er9_er9]
  · unfold tyLst at hu
    rw [if_pos hv] at hu
    exact er9_tysAll t u hu
  · unfold freeS
    rw [if_pos hv, if_pos h, er9_fr]
  · unfold cntN
    rw [if_pos hv, if_pos h, er9_cntD]
end Go.Proofs.YtffmpjcjmffdeaaDoor

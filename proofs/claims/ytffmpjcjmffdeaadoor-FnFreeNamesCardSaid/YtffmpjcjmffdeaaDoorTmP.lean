/- Valid terms: their operands, their nodes. -/
import Derived.Test.YtffmpjcjmffdeaaDoorCnM
namespace Go.Proofs.YtffmpjcjmffdeaaDoor
open Go.RowKit

theorem shpM_up : ∀ (d : Nat) (t : Tm), shpM d t = true → shpM (d + 1) t = true
  | 0, _, h => by simp [shpM] at h
  | d + 1, .mk k nm num ty fr lb ts, h => by
    rw [shpM] at h ⊢
    simp only [Bool.and_eq_true, List.all_eq_true] at h ⊢
    exact ⟨h.1, fun t ht => shpM_up d t (h.2 t ht)⟩

theorem sumL_congr {f g : Tm → Int} : ∀ {ts : List Tm}, (∀ t ∈ ts, f t = g t) → sumL f ts = sumL g ts
  | [], _ => rfl
  | t :: ts, h => by simp only [sumL]; rw [h t (by simp), sumL_congr (fun u hu => h u (by simp [hu]))]

theorem cntD_up : ∀ (d : Nat) (t : Tm), shpM d t = true → cntD (d + 1) t = cntD d t
  | 0, _, h => by simp [shpM] at h
  | d + 1, .mk k nm num ty fr lb ts, h => by
    rw [shpM] at h
    simp only [Bool.and_eq_true, List.all_eq_true] at h
    rw [cntD, cntD, sumL_congr (fun t ht => cntD_up d t (h.2 t ht))]

theorem cnt_kid {d : Nat} : ∀ {ts : List Tm} {t : Tm}, t ∈ ts → cntD d t ≤ sumL (cntD d) ts
  | u :: us, t, h => by
    have h0 := sumL_nonneg d us
    have h1 := cntD_pos d u
    simp only [sumL]
    rcases List.mem_cons.1 h with rfl | h
    · omega
    · have := cnt_kid (d := d) h
      omega

/-- The operands of a valid term are valid. -/
theorem vld_kid {k : Int} {nm : ByteArray} {num : Int} {ty fr : Ty} {lb : Int} {ts : List Tm} (h : vldM (.mk k nm num ty fr lb ts) = true) : ∀ t ∈ ts, vldM t = true := fun t ht => by
  simp only [vldM, Bool.and_eq_true, decide_eq_true_eq] at h ⊢
  obtain ⟨h1, h2⟩ := h
  rw [shpM] at h1
  simp only [Bool.and_eq_true, List.all_eq_true] at h1
  have hs := h1.2 t ht
  rw [cntD] at h2
  have hc := cnt_kid (d := 11) ht
  exact ⟨shpM_up 11 t hs, by rw [cntD_up 11 t hs]; omega⟩

/-- With a label it is not valid. -/
theorem vld_lab {k : Int} {nm : ByteArray} {num : Int} {ty fr : Ty} {lb : Int} {ts : List Tm} (h : vldM (.mk k nm num ty fr lb ts) = true) : vldM (.mk k nm num ty (.mk 0 []) 1 ts) = false := by
  simp only [vldM, Bool.and_eq_true, decide_eq_true_eq] at h
  have h1 := h.1
  rw [shpM] at h1
  simp only [Bool.and_eq_true, bne_iff_ne] at h1
  have h14 : (k == 14) = false := by rw [beq_eq_false_iff_ne]; exact h1.1.1.2
  have : shpM 12 (.mk k nm num ty (.mk 0 []) 1 ts) = false := by
    rw [shpM]
    simp [ownM, h14]
  simp [vldM, this]

end Go.Proofs.YtffmpjcjmffdeaaDoor

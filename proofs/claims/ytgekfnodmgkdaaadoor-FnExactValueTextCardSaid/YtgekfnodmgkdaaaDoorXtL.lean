/- The text of a term, kind by kind; how long it is. -/
import Derived.Test.YtgekfnodmgkdaaaDoorXt0
import Derived.Lib.ItoaLen
namespace Go.Proofs.YtgekfnodmgkdaaaDoor
open Go.RowKit

section
variable (nm : ByteArray) (num : Int) (ty fr : Ty) (lb : Int)
theorem tmX_1 (ts : List Tm) : tmX (.mk 1 nm num ty fr lb ts) = nm.data.toList := by simp [tmX, fmX, frm, pcX]
theorem tmX_2 (ts : List Tm) : tmX (.mk 2 nm num ty fr lb ts) = Lib.itoa num := by simp [tmX, fmX, frm, pcX]
theorem tmX_3 (ts : List Tm) : tmX (.mk 3 nm num ty fr lb ts) = [84] := by simp [tmX, fmX, frm, pcX]
theorem tmX_4 (ts : List Tm) : tmX (.mk 4 nm num ty fr lb ts) = [70] := by simp [tmX, fmX, frm, pcX]
theorem tmX_5 (a : Tm) : tmX (.mk 5 nm num ty fr lb [a]) = 33 :: (nm.data.toList ++ (58 :: (txt 4 ty ++ (46 :: tmX a)))) := by simp [tmX, tmXL, fmX, frm, pcX]
theorem tmX_6 (a b : Tm) : tmX (.mk 6 nm num ty fr lb [a, b]) = 40 :: (tmX a ++ (32 :: (tmX b ++ [41]))) := by simp [tmX, tmXL, fmX, frm, pcX]
theorem tmX_7 (a b : Tm) : tmX (.mk 7 nm num ty fr lb [a, b]) = 40 :: (tmX a ++ (43 :: (tmX b ++ [41]))) := by simp [tmX, tmXL, fmX, frm, pcX]
theorem tmX_8 (a b : Tm) : tmX (.mk 8 nm num ty fr lb [a, b]) = 40 :: (tmX a ++ (60 :: (tmX b ++ [41]))) := by simp [tmX, tmXL, fmX, frm, pcX]
theorem tmX_9 (a b c : Tm) : tmX (.mk 9 nm num ty fr lb [a, b, c]) = 123 :: (tmX a ++ (63 :: (tmX b ++ (58 :: (tmX c ++ [125]))))) := by simp [tmX, tmXL, fmX, frm, pcX]
theorem tmX_10 (a b : Tm) : tmX (.mk 10 nm num ty fr lb [a, b]) = 91 :: (tmX a ++ (44 :: (tmX b ++ [93]))) := by simp [tmX, tmXL, fmX, frm, pcX]
theorem tmX_11 (a : Tm) : tmX (.mk 11 nm num ty fr lb [a]) = 36 :: tmX a := by simp [tmX, tmXL, fmX, frm, pcX]
theorem tmX_12 (a : Tm) : tmX (.mk 12 nm num ty fr lb [a]) = 37 :: tmX a := by simp [tmX, tmXL, fmX, frm, pcX]
theorem tmX_13 (a : Tm) : tmX (.mk 13 nm num ty fr lb [a]) = 40 :: (tmX a ++ (58 :: (txt 4 ty ++ [41]))) := by simp [tmX, tmXL, fmX, frm, pcX]
theorem tmX_14 (a : Tm) : tmX (.mk 14 nm num ty fr lb [a]) = 40 :: (tmX a ++ (58 :: (txt 4 fr ++ (126 :: (txt 4 ty ++ (35 :: (Lib.itoa lb ++ [41]))))))) := by simp [tmX, tmXL, fmX, frm, pcX]
end

/-- The kinds, each with its operands. -/
theorem kids_of {k : Int} {ts : List Tm} (h : kidsM k = (ts.length : Int)) (hk : 1 ≤ k ∧ k ≤ 14) :
    ((k = 1 ∨ k = 2 ∨ k = 3 ∨ k = 4) ∧ ts = []) ∨ ((k = 5 ∨ k = 11 ∨ k = 12 ∨ k = 13 ∨ k = 14) ∧ ∃ a, ts = [a]) ∨ ((k = 6 ∨ k = 7 ∨ k = 8 ∨ k = 10) ∧ ∃ a b, ts = [a, b]) ∨ (k = 9 ∧ ∃ a b c, ts = [a, b, c]) := by
  unfold kidsM at h
  by_cases h1 : k = 1 ∨ k = 2 ∨ k = 3 ∨ k = 4
  · rw [if_pos h1] at h
    exact .inl ⟨h1, List.length_eq_zero_iff.1 (by omega)⟩
  · rw [if_neg h1] at h
    by_cases h2 : k = 5 ∨ k = 11 ∨ k = 12 ∨ k = 13 ∨ k = 14
    · rw [if_pos h2] at h
      match ts, h with
      | [a], _ => exact .inr (.inl ⟨h2, a, rfl⟩)
    · rw [if_neg h2] at h
      by_cases h3 : k = 6 ∨ k = 7 ∨ k = 8 ∨ k = 10
      · rw [if_pos h3] at h
        match ts, h with
        | [a, b], _ => exact .inr (.inr (.inl ⟨h3, a, b, rfl⟩))
      · rw [if_neg h3] at h
        have h9 : k = 9 := by omega
        rw [if_pos h9] at h
        match ts, h with
        | [a, b, c], _ => exact .inr (.inr (.inr ⟨h9, a, b, c, rfl⟩))

theorem itoa_le {n : Int} (h1 : -999 ≤ n) (h2 : n ≤ 999) : (Lib.itoa n).length ≤ 21 := Lib.itoa_length_le n (by omega) (by omega)

theorem tmX_len : ∀ (t : Tm) (d : Nat), xOk d t = true → (tmX t).length ≤ 300 * (t.sz + 1) := Tm.ind fun k nm num ty fr lb ts ih d h => by
  obtain ⟨hk, hkid, hty, hfr, hnum, hlb, hnm, d', hts⟩ := xOk_node h
  have t1 := txt_le 4 ty (Nat.le_refl _)
  have t2 := txt_le 4 fr (Nat.le_refl _)
  rcases kids_of hkid hk with ⟨hq, rfl⟩ | ⟨hq, a, rfl⟩ | ⟨hq, a, b, rfl⟩ | ⟨rfl, a, b, c, rfl⟩
  · rcases hq with rfl | rfl | rfl | rfl
    · have := hnm (.inl rfl)
      rw [tmX_1]
      simp only [Array.length_toList]
      have e : nm.data.size = nm.size := rfl
      omega
    · have := itoa_le (n := num) (by have := hnum rfl; omega) (by have := hnum rfl; omega)
      rw [tmX_2]
      omega
    · rw [tmX_3]; simp; omega
    · rw [tmX_4]; simp; omega
  · have ha := ih a (by simp) d' (hts a (by simp))
    have hs : (Tm.mk k nm num ty fr lb [a]).sz = nm.size + ty.cnt + fr.cnt + (1 + a.sz) := by simp [Tm.sz, szML]
    rcases hq with rfl | rfl | rfl | rfl | rfl
    · have := hnm (.inr rfl)
      have e : nm.data.size = nm.size := rfl
      rw [tmX_5, hs]
      simp only [List.length_cons, List.length_append, Array.length_toList]
      omega
    · rw [tmX_11, hs]
      simp only [List.length_cons]
      omega
    · rw [tmX_12, hs]
      simp only [List.length_cons]
      omega
    · rw [tmX_13, hs]
      simp only [List.length_cons, List.length_append, List.length_nil]
      omega
    · have := itoa_le (n := lb) (by have := hlb rfl; omega) (by have := hlb rfl; omega)
      rw [tmX_14, hs]
      simp only [List.length_cons, List.length_append, List.length_nil]
      omega
  · have ha := ih a (by simp) d' (hts a (by simp))
    have hb := ih b (by simp) d' (hts b (by simp))
    have hs : (Tm.mk k nm num ty fr lb [a, b]).sz = nm.size + ty.cnt + fr.cnt + (2 + (a.sz + b.sz)) := by simp [Tm.sz, szML]
    rcases hq with rfl | rfl | rfl | rfl
    · rw [tmX_6, hs]; simp only [List.length_cons, List.length_append, List.length_nil]; omega
    · rw [tmX_7, hs]; simp only [List.length_cons, List.length_append, List.length_nil]; omega
    · rw [tmX_8, hs]; simp only [List.length_cons, List.length_append, List.length_nil]; omega
    · rw [tmX_10, hs]; simp only [List.length_cons, List.length_append, List.length_nil]; omega
  · have ha := ih a (by simp) d' (hts a (by simp))
    have hb := ih b (by simp) d' (hts b (by simp))
    have hc := ih c (by simp) d' (hts c (by simp))
    have hs : (Tm.mk 9 nm num ty fr lb [a, b, c]).sz = nm.size + ty.cnt + fr.cnt + (3 + (a.sz + (b.sz + c.sz))) := by simp [Tm.sz, szML]
    rw [tmX_9, hs]
    simp only [List.length_cons, List.length_append, List.length_nil]
    omega
end Go.Proofs.YtgekfnodmgkdaaaDoor

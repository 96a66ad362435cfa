/- The texts of types, plainly: valid types have different texts. The text of a type, read: what is read is the type, and a text that is read is that type's. -/
import Derived.Test.YtelbpgdlcnnabaaDlP
import Derived.Test.YtelbpgdlcnnabaaTx0
import Derived.Test.YtelbpgdlcnnabaaPrA
namespace Go.Proofs.Ytelbpgdlcnnabaa
open Go.RowKit

theorem sgn_inj {k k' : Int} (h : 1 ≤ k ∧ k ≤ 5) (h' : 1 ≤ k' ∧ k' ≤ 5) (e : sgn k = sgn k') : k = k' := by
  have c : k = 1 ∨ k = 2 ∨ k = 3 ∨ k = 4 ∨ k = 5 := by omega
  have c' : k' = 1 ∨ k' = 2 ∨ k' = 3 ∨ k' = 4 ∨ k' = 5 := by omega
  rcases c with rfl | rfl | rfl | rfl | rfl <;> rcases c' with rfl | rfl | rfl | rfl | rfl <;> first | rfl | (exact absurd e (by decide))

theorem sgn_not40 {k : Int} : sgn k ≠ 40 := by
  unfold sgn
  repeat' split
  all_goals decide

theorem txt_leaf {d : Nat} {k : Int} : txt (d + 1) (.mk k []) = [sgn k] := by simp [txt]
theorem txt_two {d : Nat} {k : Int} {x y : Ty} : txt (d + 1) (.mk k [x, y]) = 40 :: (txt d x ++ (sgn k :: (txt d y ++ [41]))) := by simp [txt]

/-- A text says where it ends, and what it is the text of. -/
theorem txt_inj : ∀ (d : Nat) (a b : Ty) (r s : List UInt8), shp d a = true → shp d b = true → txt d a ++ r = txt d b ++ s → a = b ∧ r = s
  | 0, a, _, _, _, ha, _, _ => by simp [shp] at ha
  | d + 1, .mk k ts, .mk k' us, r, s, ha, hb, h => by
    rcases shp_cases ha with ⟨rfl, hk⟩ | ⟨x, y, rfl, hk, hx, hy⟩
    · rcases shp_cases hb with ⟨rfl, hk'⟩ | ⟨x', y', rfl, hk', hx', hy'⟩
      · rw [txt_leaf, txt_leaf] at h
        simp only [List.cons_append, List.nil_append, List.cons.injEq] at h
        rw [sgn_inj (by omega) (by omega) h.1]
        exact ⟨rfl, h.2⟩
      · rw [txt_leaf, txt_two] at h
        simp only [List.cons_append, List.nil_append, List.cons.injEq] at h
        exact absurd h.1 sgn_not40
    · rcases shp_cases hb with ⟨rfl, hk'⟩ | ⟨x', y', rfl, hk', hx', hy'⟩
      · rw [txt_two, txt_leaf] at h
        simp only [List.cons_append, List.nil_append, List.cons.injEq] at h
        exact absurd h.1.symm sgn_not40
      · rw [txt_two, txt_two] at h
        simp only [List.cons_append, List.append_assoc, List.cons.injEq, true_and] at h
        obtain ⟨e1, h1⟩ := txt_inj d x x' _ _ hx hx' h
        simp only [List.cons.injEq] at h1
        obtain ⟨e2, h2⟩ := txt_inj d y y' _ _ hy hy' h1.2
        simp only [List.nil_append, List.cons.injEq, true_and] at h2
        rw [e1, e2, sgn_inj (by omega) (by omega) h1.1]
        exact ⟨rfl, h2⟩

theorem txt_ne (d : Nat) (a : Ty) (h : shp d a = true) : txt d a ≠ [] := by
  cases d with
  | zero => simp [shp] at h
  | succ d =>
    obtain ⟨k, ts, rfl⟩ := a.shape
    rcases shp_cases h with ⟨rfl, hk⟩ | ⟨x, y, rfl, hk, hx, hy⟩
    · rw [txt_leaf]; simp
    · rw [txt_two]; simp

theorem fmt_nil (a : Ty) (h : vld a = false) : (⟨(fmtT a).toArray⟩ : ByteArray).toList = [] := by
  rw [Lib.toList_data]
  simp [fmtT, h]

theorem fmt_ne (a : Ty) (h : vld a = true) : (⟨(fmtT a).toArray⟩ : ByteArray).toList ≠ [] := by
  rw [Lib.toList_data]
  simp only [fmtT, h, if_true]
  exact txt_ne 4 a h

theorem fmt_eq (a b : Ty) (ha : vld a = true) (hb : vld b = true) : ((⟨(fmtT a).toArray⟩ : ByteArray).toList == (⟨(fmtT b).toArray⟩ : ByteArray).toList) = tyEq a b := by
  rw [Lib.toList_data, Lib.toList_data]
  simp only [fmtT, ha, hb, if_true]
  rw [Bool.eq_iff_iff, beq_iff_eq]
  constructor
  · intro h
    rw [(txt_inj 4 a b [] [] ha hb (by simpa using h)).1, tyEq_refl]
  · intro h
    rw [eq_of_tyEq h]

theorem drop_byt {s : ByteArray} {i : Nat} (h : i < s.size) : s.data.toList.drop i = (s[i]'h) :: s.data.toList.drop (i + 1) := by
  have h' : i < s.data.toList.length := by simpa using h
  rw [List.drop_eq_getElem_cons h']
  rfl

theorem byt_of {s : ByteArray} {i : Nat} {c : UInt8} {r : List UInt8} (h : s.data.toList.drop i = c :: r) : byt s i = c.toNat ∧ i < s.size ∧ s.data.toList.drop (i + 1) = r := by
  have hi : i < s.size := by
    have h1 : (s.data.toList.drop i).length = r.length + 1 := by rw [h]; rfl
    rw [List.length_drop] at h1
    have h2 : s.data.toList.length = s.size := Array.length_toList
    omega
  rw [drop_byt hi] at h
  injection h with h1 h2
  exact ⟨by rw [byt, dif_pos hi, h1], hi, h2⟩

theorem of_byt {s : ByteArray} {i : Nat} {c : UInt8} (h : byt s i = c.toNat) (hc : c.toNat ≠ 0) : s.data.toList.drop i = c :: s.data.toList.drop (i + 1) := by
  have hi := byt_in (s := s) (i := i) (by rw [h]; exact hc)
  rw [drop_byt hi]
  congr 1
  rw [byt, dif_pos hi] at h
  exact UInt8.toNat.inj h

theorem kos_sgn {k : Int} (h : 1 ≤ k ∧ k ≤ 5) : kos (sgn k).toNat = k := by
  have c : k = 1 ∨ k = 2 ∨ k = 3 ∨ k = 4 ∨ k = 5 := by omega
  rcases c with rfl | rfl | rfl | rfl | rfl <;> rfl

/-- What is read is the text of what comes out. -/
theorem prs_text (s : ByteArray) : ∀ (d i : Nat) (t : Ty) (j : Nat), prs s d i = some (t, j) → shp d t = true ∧ s.data.toList.drop i = txt d t ++ s.data.toList.drop j
  | 0, _, _, _, h => by simp [prs] at h
  | d + 1, i, t, j, h => by
    rw [prs] at h
    split at h
    · rename_i h40
      unfold oprW at h
      split at h
      · cases h
      · rename_i a j1 ha
        split at h
        · rename_i hs
          split at h
          · cases h
          · rename_i b l hb
            split at h
            · rename_i h41
              simp only [Option.some.injEq, Prod.mk.injEq] at h
              obtain ⟨rfl, rfl⟩ := h
              obtain ⟨sa, ta⟩ := prs_text s d _ _ _ ha
              obtain ⟨sb, tb⟩ := prs_text s d _ _ _ hb
              have e0 := of_byt (c := 40) (i := i) h40 (by decide)
              have e2 := of_byt (c := 41) (i := l) h41 (by decide)
              rcases hs with hs | hs
              · have e1 := of_byt (c := 62) (i := j1) hs (by decide)
                rw [hs]
                refine ⟨by simp [shp, kos, kidsOf, sa, sb], ?_⟩
                rw [e0, ta, e1, tb, e2]
                simp [txt, kos, sgn]
              · have e1 := of_byt (c := 42) (i := j1) hs (by decide)
                rw [hs]
                refine ⟨by simp [shp, kos, kidsOf, sa, sb], ?_⟩
                rw [e0, ta, e1, tb, e2]
                simp [txt, kos, sgn]
            · cases h
        · cases h
    · split at h
      · rename_i hs
        simp only [Option.some.injEq, Prod.mk.injEq] at h
        obtain ⟨rfl, rfl⟩ := h
        rcases hs with hs | hs | hs
        · have e1 := of_byt (c := 63) (i := i) hs (by decide)
          rw [hs]
          exact ⟨by simp [shp, kos, kidsOf], by rw [e1]; simp [txt, kos, sgn]⟩
        · have e1 := of_byt (c := 73) (i := i) hs (by decide)
          rw [hs]
          exact ⟨by simp [shp, kos, kidsOf], by rw [e1]; simp [txt, kos, sgn]⟩
        · have e1 := of_byt (c := 66) (i := i) hs (by decide)
          rw [hs]
          exact ⟨by simp [shp, kos, kidsOf], by rw [e1]; simp [txt, kos, sgn]⟩
      · cases h

/-- The text of a type is read as the type. -/
theorem prs_of (s : ByteArray) : ∀ (d i : Nat) (t : Ty) (r : List UInt8), shp d t = true → s.data.toList.drop i = txt d t ++ r → ∃ j, prs s d i = some (t, j) ∧ s.data.toList.drop j = r
  | 0, _, _, _, h, _ => by simp [shp] at h
  | d + 1, i, .mk k ts, r, h, ht => by
    rcases shp_cases h with ⟨rfl, hk⟩ | ⟨x, y, rfl, hk, hx, hy⟩
    · rw [txt_leaf] at ht
      obtain ⟨h1, -, h3⟩ := byt_of ht
      refine ⟨i + 1, ?_, h3⟩
      have c : k = 1 ∨ k = 2 ∨ k = 3 := by omega
      rcases c with rfl | rfl | rfl
      · rw [show (sgn 1).toNat = 63 from rfl] at h1; rw [prs, if_neg (by omega), if_pos (by omega), h1]; rfl
      · rw [show (sgn 2).toNat = 73 from rfl] at h1; rw [prs, if_neg (by omega), if_pos (by omega), h1]; rfl
      · rw [show (sgn 3).toNat = 66 from rfl] at h1; rw [prs, if_neg (by omega), if_pos (by omega), h1]; rfl
    · rw [txt_two] at ht
      simp only [List.cons_append, List.append_assoc] at ht
      obtain ⟨h1, -, h3⟩ := byt_of ht
      obtain ⟨j1, p1, q1⟩ := prs_of s d _ x _ hx h3
      obtain ⟨h4, -, h5⟩ := byt_of q1
      obtain ⟨j2, p2, q2⟩ := prs_of s d _ y _ hy h5
      obtain ⟨h6, -, h7⟩ := byt_of q2
      refine ⟨j2 + 1, ?_, h7⟩
      have h1' : byt s i = 40 := h1
      have h6' : byt s j2 = 41 := h6
      have c : k = 4 ∨ k = 5 := by omega
      rcases c with rfl | rfl
      · have h4' : byt s j1 = 62 := h4
        rw [prs, if_pos h1', oprW, p1]
        simp only [h4', true_or, if_true, p2, h6']
        rfl
      · have h4' : byt s j1 = 42 := h4
        rw [prs, if_pos h1', oprW, p1]
        simp only [h4', or_true, if_true, p2, h6']
        rfl

theorem size_list (s : ByteArray) : s.data.toList.length = s.size := Array.length_toList

theorem drop_end {s : ByteArray} {j : Nat} (h : j ≤ s.size) (hd : s.data.toList.drop j = []) : j = s.size := by
  have := List.drop_eq_nil_iff.1 hd
  rw [size_list] at this
  omega

theorem fmt_size (t : Ty) : (⟨(fmtT t).toArray⟩ : ByteArray).size ≤ 1048576 := by
  have h := txt_len 4 t
  simp only [fmtT]
  split
  · show (txt 4 t).toArray.size ≤ 1048576
    rw [List.size_toArray]
    omega
  · exact Nat.zero_le _

/-- The text of a type is one that is read exactly if the type is valid. -/
theorem prsOk_fmt (t : Ty) : prsOk ⟨(fmtT t).toArray⟩ = vld t := by
  cases hv : vld t with
  | true =>
    obtain ⟨j, h1, h2⟩ := prs_of ⟨(fmtT t).toArray⟩ 4 0 t [] hv (by simp [fmtT, hv])
    exact (prs_whole h1 (drop_end (prs_le h1) h2)).2
  | false =>
    have hs : (⟨(fmtT t).toArray⟩ : ByteArray).size = 0 := by simp [fmtT, hv, ByteArray.size]
    have : prs ⟨(fmtT t).toArray⟩ 4 0 = none := by
      rw [prs, if_neg (by unfold byt; rw [dif_neg (by omega)]; omega), if_neg (by unfold byt; rw [dif_neg (by omega)]; omega)]
    exact (prs_none this).2

theorem prsT_fmt (t : Ty) (hv : vld t = true) : prsT ⟨(fmtT t).toArray⟩ = t := by
  obtain ⟨j, h1, h2⟩ := prs_of ⟨(fmtT t).toArray⟩ 4 0 t [] hv (by simp [fmtT, hv])
  exact (prs_whole h1 (drop_end (prs_le h1) h2)).1

theorem fmt_prs (s : ByteArray) (h : prsOk s = true) : ((⟨(fmtT (prsT s)).toArray⟩ : ByteArray).toList == s.toList) = true := by
  unfold prsOk at h
  split at h
  · cases h
  · rename_i t j hp
    simp only [decide_eq_true_eq] at h
    obtain ⟨h1, h2⟩ := prs_text s 4 0 t j hp
    rw [(prs_whole hp h).1, Lib.toList_data, Lib.toList_data, beq_iff_eq]
    have hv : vld t = true := h1
    have hd : s.data.toList.drop j = [] := List.drop_eq_nil_iff.2 (by rw [size_list, h]; exact Nat.le_refl _)
    rw [hd, List.append_nil, List.drop_zero] at h2
    simp only [fmtT, hv, if_true]
    exact h2.symm

end Go.Proofs.Ytelbpgdlcnnabaa

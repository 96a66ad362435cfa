/- The specification's test of a node's own fields. -/
import Derived.Test.YtjpmlmdbldcbjaaDoorQPkB
import Derived.Test.YtjpmlmdbldcbjaaDoorQPkA
namespace Go.Proofs.YtjpmlmdbldcbjaaDoor
open Go.RowKit

theorem empty_of_size {s : ByteArray} (h : s.size = 0) : s = ⟨#[]⟩ := by
  obtain ⟨⟨l⟩⟩ := s
  match l, h with
  | [], _ => rfl

theorem ne_empty {s : ByteArray} (h : s.size ≠ 0) : s.toList.isEmpty = false := by
  rw [Lib.toList_data]
  obtain ⟨⟨l⟩⟩ := s
  match l, h with
  | [], h => exact absurd rfl h
  | _ :: _, _ => rfl

set_option maxHeartbeats 4000000 in
theorem l2Own_any (k : Int) (nm : ByteArray) (num : Int) (ty fr : Ty) (lb : Int) (ts : List Tm) (v : Value) (fp : List Nat) (w : World) (hat : Tm.At w (.mk k nm num ty fr lb ts) v fp) :
    Calls Tryd.prog 68 #[v] w fun e w' => e = .returned (.bool (ownM k nm num ty fr lb)) ∧ Below w.heap.size w w' := by
  obtain ⟨k1, n1, a1, c1, k2, n2, a2, c2, a3, c3, f1, f2, f3, rfl, hnm, ht1, ht2, rfl, hs⟩ := hat.parts
  clear hat
  have hb0 : Below w.heap.size w (w.alloc (Obj.cells #[.int .i64 k, .string nm, .int .i64 num, .int .i64 k1, .slice a1 n1 c1, .int .i64 k2, .slice a2 n2 c2, .int .i64 lb, .slice a3 ts.length c3] 34)) := (Below.refl _ _).alloc (Nat.le_refl _) _
  by_cases hk1 : k = 1
  · subst hk1
    cases hI : isNm nm
    case false =>
      have hN := hI
      have HR := hid (show ownM 1 nm num ty fr lb = false by simp [ownM, hN])
      go_enter Tryd.func68, Tryd.ntmps68
      go_wp2_with fail
      refine (l2Name_any nm hnm _).mono ?_
      rintro e w1 ⟨rfl, rfl⟩
      rw [hI]
      go_wp2_with fail
      go_ret
      first | exact ⟨ret_b HR.out.symm, hb0⟩ | exact ⟨ret_b (by rw [HR.out]; simp; omega), hb0⟩
    have hN := hI
    cases hT : noTy ty
    case false =>
      have HR := hid (show ownM 1 nm num ty fr lb = false by simp [ownM, hN, hT])
      go_enter Tryd.func68, Tryd.ntmps68
      go_wp2_with fail
      refine (l2Name_any nm hnm _).mono ?_
      rintro e w1 ⟨rfl, rfl⟩
      rw [hI]
      go_wp2_with fail
      refine (l2None_any ty _ _ _ (ht1.below hb0)).mono ?_
      rintro e w2 ⟨rfl, hb1⟩
      rw [hT]
      have b1 := below_trans hb0 hb1
      obtain ⟨x0, x1, x2, x3, x4, x5, x6, x7, x8⟩ := box9 hb1
      go_wp2_with fail
      go_ret
      first | exact ⟨ret_b HR.out.symm, b1⟩ | exact ⟨ret_b (by rw [HR.out]; simp; omega), b1⟩
    cases hF : noTy fr
    case false =>
      have HR := hid (show ownM 1 nm num ty fr lb = false by simp [ownM, hF, hN, hT])
      go_enter Tryd.func68, Tryd.ntmps68
      go_wp2_with fail
      refine (l2Name_any nm hnm _).mono ?_
      rintro e w1 ⟨rfl, rfl⟩
      rw [hI]
      go_wp2_with fail
      refine (l2None_any ty _ _ _ (ht1.below hb0)).mono ?_
      rintro e w2 ⟨rfl, hb1⟩
      rw [hT]
      have b1 := below_trans hb0 hb1
      obtain ⟨x0, x1, x2, x3, x4, x5, x6, x7, x8⟩ := box9 hb1
      go_wp2_with fail
      refine (l2None_any fr _ _ _ (ht2.below b1)).mono ?_
      rintro e w3 ⟨rfl, hb2⟩
      rw [hF]
      have b2 := below_trans b1 hb2
      replace x0 := cell_keep x0 hb2
      replace x2 := cell_keep x2 hb2
      replace x7 := cell_keep x7 hb2
      go_wp2_with fail
      go_ret
      first | exact ⟨ret_b HR.out.symm, b2⟩ | exact ⟨ret_b (by rw [HR.out]; simp; omega), b2⟩
    by_cases hL : lb = 0
    case neg =>
      have hl1 : (lb == 0) = false := by simpa using hL
      have hl2 : (lb != 0) = true := by simpa using hL
      have HR := hid (show ownM 1 nm num ty fr lb = false by simp [ownM, hF, hL, hN, hT])
      go_enter Tryd.func68, Tryd.ntmps68
      go_wp2_with fail
      refine (l2Name_any nm hnm _).mono ?_
      rintro e w1 ⟨rfl, rfl⟩
      rw [hI]
      go_wp2_with fail
      refine (l2None_any ty _ _ _ (ht1.below hb0)).mono ?_
      rintro e w2 ⟨rfl, hb1⟩
      rw [hT]
      have b1 := below_trans hb0 hb1
      obtain ⟨x0, x1, x2, x3, x4, x5, x6, x7, x8⟩ := box9 hb1
      go_wp2_with fail
      refine (l2None_any fr _ _ _ (ht2.below b1)).mono ?_
      rintro e w3 ⟨rfl, hb2⟩
      rw [hF]
      have b2 := below_trans b1 hb2
      replace x0 := cell_keep x0 hb2
      replace x2 := cell_keep x2 hb2
      replace x7 := cell_keep x7 hb2
      go_wp2_with fail
      go_ret
      first | exact ⟨ret_b HR.out.symm, b2⟩ | exact ⟨ret_b (by rw [HR.out]; simp; omega), b2⟩
    subst hL
    have HR := hid (show ownM 1 nm num ty fr 0 = (num == 0) by simp [ownM, hF, hN, hT])
    go_enter Tryd.func68, Tryd.ntmps68
    go_wp2_with fail
    refine (l2Name_any nm hnm _).mono ?_
    rintro e w1 ⟨rfl, rfl⟩
    rw [hI]
    go_wp2_with fail
    refine (l2None_any ty _ _ _ (ht1.below hb0)).mono ?_
    rintro e w2 ⟨rfl, hb1⟩
    rw [hT]
    have b1 := below_trans hb0 hb1
    obtain ⟨x0, x1, x2, x3, x4, x5, x6, x7, x8⟩ := box9 hb1
    go_wp2_with fail
    refine (l2None_any fr _ _ _ (ht2.below b1)).mono ?_
    rintro e w3 ⟨rfl, hb2⟩
    rw [hF]
    have b2 := below_trans b1 hb2
    replace x0 := cell_keep x0 hb2
    replace x2 := cell_keep x2 hb2
    replace x7 := cell_keep x7 hb2
    go_wp2_with fail
    go_ret
    first | exact ⟨ret_b HR.out.symm, b2⟩ | exact ⟨ret_b (by rw [HR.out]; simp; omega), b2⟩
  by_cases hk2 : k = 2
  · subst hk2
    cases hI : isNm nm
    case true =>
      have hN : nm.size ≠ 0 := by intro h; rw [isNm_size (by omega)] at hI; cases hI
      have HR := hid (show ownM 2 nm num ty fr lb = false by simp [ownM, hN])
      go_enter Tryd.func68, Tryd.ntmps68
      go_wp2_with fail
      refine (l2Name_any nm hnm _).mono ?_
      rintro e w1 ⟨rfl, rfl⟩
      rw [hI]
      go_wp2_with fail
      go_ret
      first | exact ⟨ret_b HR.out.symm, hb0⟩ | exact ⟨ret_b (by rw [HR.out]; simp; omega), hb0⟩
    by_cases hN : nm.size = 0
    case neg =>
      have hz1 := ne_empty hN
      have HR := hid (show ownM 2 nm num ty fr lb = false by simp [ownM, hN])
      go_enter Tryd.func68, Tryd.ntmps68
      go_wp2_with fail
      refine (l2Name_any nm hnm _).mono ?_
      rintro e w1 ⟨rfl, rfl⟩
      rw [hI]
      go_wp2_with fail
      go_ret
      first | exact ⟨ret_b HR.out.symm, hb0⟩ | exact ⟨ret_b (by rw [HR.out]; simp; omega), hb0⟩
    have hz := empty_of_size hN
    subst hz
    cases hT : noTy ty
    case false =>
      have HR := hid (show ownM 2 ⟨#[]⟩ num ty fr lb = false by simp [ownM, hN, hT])
      go_enter Tryd.func68, Tryd.ntmps68
      go_wp2_with fail
      refine (l2Name_any ⟨#[]⟩ hnm _).mono ?_
      rintro e w1 ⟨rfl, rfl⟩
      rw [hI]
      go_wp2_with fail
      refine (l2None_any ty _ _ _ (ht1.below hb0)).mono ?_
      rintro e w2 ⟨rfl, hb1⟩
      rw [hT]
      have b1 := below_trans hb0 hb1
      obtain ⟨x0, x1, x2, x3, x4, x5, x6, x7, x8⟩ := box9 hb1
      go_wp2_with fail
      go_ret
      first | exact ⟨ret_b HR.out.symm, b1⟩ | exact ⟨ret_b (by rw [HR.out]; simp; omega), b1⟩
    cases hF : noTy fr
    case false =>
      have HR := hid (show ownM 2 ⟨#[]⟩ num ty fr lb = false by simp [ownM, hF, hN, hT])
      go_enter Tryd.func68, Tryd.ntmps68
      go_wp2_with fail
      refine (l2Name_any ⟨#[]⟩ hnm _).mono ?_
      rintro e w1 ⟨rfl, rfl⟩
      rw [hI]
      go_wp2_with fail
      refine (l2None_any ty _ _ _ (ht1.below hb0)).mono ?_
      rintro e w2 ⟨rfl, hb1⟩
      rw [hT]
      have b1 := below_trans hb0 hb1
      obtain ⟨x0, x1, x2, x3, x4, x5, x6, x7, x8⟩ := box9 hb1
      go_wp2_with fail
      refine (l2None_any fr _ _ _ (ht2.below b1)).mono ?_
      rintro e w3 ⟨rfl, hb2⟩
      rw [hF]
      have b2 := below_trans b1 hb2
      replace x0 := cell_keep x0 hb2
      replace x2 := cell_keep x2 hb2
      replace x7 := cell_keep x7 hb2
      go_wp2_with fail
      go_ret
      first | exact ⟨ret_b HR.out.symm, b2⟩ | exact ⟨ret_b (by rw [HR.out]; simp; omega), b2⟩
    by_cases hL : lb = 0
    case neg =>
      have hl1 : (lb == 0) = false := by simpa using hL
      have hl2 : (lb != 0) = true := by simpa using hL
      have HR := hid (show ownM 2 ⟨#[]⟩ num ty fr lb = false by simp [ownM, hF, hL, hN, hT])
      go_enter Tryd.func68, Tryd.ntmps68
      go_wp2_with fail
      refine (l2Name_any ⟨#[]⟩ hnm _).mono ?_
      rintro e w1 ⟨rfl, rfl⟩
      rw [hI]
      go_wp2_with fail
      refine (l2None_any ty _ _ _ (ht1.below hb0)).mono ?_
      rintro e w2 ⟨rfl, hb1⟩
      rw [hT]
      have b1 := below_trans hb0 hb1
      obtain ⟨x0, x1, x2, x3, x4, x5, x6, x7, x8⟩ := box9 hb1
      go_wp2_with fail
      refine (l2None_any fr _ _ _ (ht2.below b1)).mono ?_
      rintro e w3 ⟨rfl, hb2⟩
      rw [hF]
      have b2 := below_trans b1 hb2
      replace x0 := cell_keep x0 hb2
      replace x2 := cell_keep x2 hb2
      replace x7 := cell_keep x7 hb2
      go_wp2_with fail
      go_ret
      first | exact ⟨ret_b HR.out.symm, b2⟩ | exact ⟨ret_b (by rw [HR.out]; simp; omega), b2⟩
    subst hL
    by_cases hQ : 0 ≤ num
    case neg =>
      have HR := hid (show ownM 2 ⟨#[]⟩ num ty fr 0 = false by simp [ownM, hF, hN, hQ, hT])
      go_enter Tryd.func68, Tryd.ntmps68
      go_wp2_with fail
      refine (l2Name_any ⟨#[]⟩ hnm _).mono ?_
      rintro e w1 ⟨rfl, rfl⟩
      rw [hI]
      go_wp2_with fail
      refine (l2None_any ty _ _ _ (ht1.below hb0)).mono ?_
      rintro e w2 ⟨rfl, hb1⟩
      rw [hT]
      have b1 := below_trans hb0 hb1
      obtain ⟨x0, x1, x2, x3, x4, x5, x6, x7, x8⟩ := box9 hb1
      go_wp2_with fail
      refine (l2None_any fr _ _ _ (ht2.below b1)).mono ?_
      rintro e w3 ⟨rfl, hb2⟩
      rw [hF]
      have b2 := below_trans b1 hb2
      replace x0 := cell_keep x0 hb2
      replace x2 := cell_keep x2 hb2
      replace x7 := cell_keep x7 hb2
      go_wp2_with fail
      go_ret
      first | exact ⟨ret_b HR.out.symm, b2⟩ | exact ⟨ret_b (by rw [HR.out]; simp; omega), b2⟩
    by_cases hQ2 : num ≤ 999
    case neg =>
      have HR := hid (show ownM 2 ⟨#[]⟩ num ty fr 0 = false by simp [ownM, hF, hN, hQ, hQ2, hT])
      go_enter Tryd.func68, Tryd.ntmps68
      go_wp2_with fail
      refine (l2Name_any ⟨#[]⟩ hnm _).mono ?_
      rintro e w1 ⟨rfl, rfl⟩
      rw [hI]
      go_wp2_with fail
      refine (l2None_any ty _ _ _ (ht1.below hb0)).mono ?_
      rintro e w2 ⟨rfl, hb1⟩
      rw [hT]
      have b1 := below_trans hb0 hb1
      obtain ⟨x0, x1, x2, x3, x4, x5, x6, x7, x8⟩ := box9 hb1
      go_wp2_with fail
      refine (l2None_any fr _ _ _ (ht2.below b1)).mono ?_
      rintro e w3 ⟨rfl, hb2⟩
      rw [hF]
      have b2 := below_trans b1 hb2
      replace x0 := cell_keep x0 hb2
      replace x2 := cell_keep x2 hb2
      replace x7 := cell_keep x7 hb2
      go_wp2_with fail
      go_ret
      first | exact ⟨ret_b HR.out.symm, b2⟩ | exact ⟨ret_b (by rw [HR.out]; simp; omega), b2⟩
    have HR := hid (show ownM 2 ⟨#[]⟩ num ty fr 0 = true by simp [ownM, hF, hN, hQ, hQ2, hT])
    go_enter Tryd.func68, Tryd.ntmps68
    go_wp2_with fail
    refine (l2Name_any ⟨#[]⟩ hnm _).mono ?_
    rintro e w1 ⟨rfl, rfl⟩
    rw [hI]
    go_wp2_with fail
    refine (l2None_any ty _ _ _ (ht1.below hb0)).mono ?_
    rintro e w2 ⟨rfl, hb1⟩
    rw [hT]
    have b1 := below_trans hb0 hb1
    obtain ⟨x0, x1, x2, x3, x4, x5, x6, x7, x8⟩ := box9 hb1
    go_wp2_with fail
    refine (l2None_any fr _ _ _ (ht2.below b1)).mono ?_
    rintro e w3 ⟨rfl, hb2⟩
    rw [hF]
    have b2 := below_trans b1 hb2
    replace x0 := cell_keep x0 hb2
    replace x2 := cell_keep x2 hb2
    replace x7 := cell_keep x7 hb2
    go_wp2_with fail
    go_ret
    first | exact ⟨ret_b HR.out.symm, b2⟩ | exact ⟨ret_b (by rw [HR.out]; simp; omega), b2⟩
  by_cases hk5 : k = 5
  · subst hk5
    cases hI : isNm nm
    case false =>
      have hN := hI
      have HR := hid (show ownM 5 nm num ty fr lb = false by simp [ownM, hN])
      go_enter Tryd.func68, Tryd.ntmps68
      go_wp2_with fail
      refine (l2Name_any nm hnm _).mono ?_
      rintro e w1 ⟨rfl, rfl⟩
      rw [hI]
      go_wp2_with fail
      go_ret
      first | exact ⟨ret_b HR.out.symm, hb0⟩ | exact ⟨ret_b (by rw [HR.out]; simp; omega), hb0⟩
    have hN := hI
    cases hT : vld ty
    case false =>
      have HR := hid (show ownM 5 nm num ty fr lb = false by simp [ownM, hN, hT])
      go_enter Tryd.func68, Tryd.ntmps68
      go_wp2_with fail
      refine (l2Name_any nm hnm _).mono ?_
      rintro e w1 ⟨rfl, rfl⟩
      rw [hI]
      go_wp2_with fail
      refine (specTypeValid_any ty _ _ _ (ht1.below hb0)).mono ?_
      rintro e w2 ⟨rfl, hb1⟩
      rw [hT]
      have b1 := below_trans hb0 hb1
      obtain ⟨x0, x1, x2, x3, x4, x5, x6, x7, x8⟩ := box9 hb1
      go_wp2_with fail
      go_ret
      first | exact ⟨ret_b HR.out.symm, b1⟩ | exact ⟨ret_b (by rw [HR.out]; simp; omega), b1⟩
    cases hF : noTy fr
    case false =>
      have HR := hid (show ownM 5 nm num ty fr lb = false by simp [ownM, hF, hN, hT])
      go_enter Tryd.func68, Tryd.ntmps68
      go_wp2_with fail
      refine (l2Name_any nm hnm _).mono ?_
      rintro e w1 ⟨rfl, rfl⟩
      rw [hI]
      go_wp2_with fail
      refine (specTypeValid_any ty _ _ _ (ht1.below hb0)).mono ?_
      rintro e w2 ⟨rfl, hb1⟩
      rw [hT]
      have b1 := below_trans hb0 hb1
      obtain ⟨x0, x1, x2, x3, x4, x5, x6, x7, x8⟩ := box9 hb1
      go_wp2_with fail
      refine (l2None_any fr _ _ _ (ht2.below b1)).mono ?_
      rintro e w3 ⟨rfl, hb2⟩
      rw [hF]
      have b2 := below_trans b1 hb2
      replace x0 := cell_keep x0 hb2
      replace x2 := cell_keep x2 hb2
      replace x7 := cell_keep x7 hb2
      go_wp2_with fail
      go_ret
      first | exact ⟨ret_b HR.out.symm, b2⟩ | exact ⟨ret_b (by rw [HR.out]; simp; omega), b2⟩
    by_cases hL : lb = 0
    case neg =>
      have hl1 : (lb == 0) = false := by simpa using hL
      have hl2 : (lb != 0) = true := by simpa using hL
      have HR := hid (show ownM 5 nm num ty fr lb = false by simp [ownM, hF, hL, hN, hT])
      go_enter Tryd.func68, Tryd.ntmps68
      go_wp2_with fail
      refine (l2Name_any nm hnm _).mono ?_
      rintro e w1 ⟨rfl, rfl⟩
      rw [hI]
      go_wp2_with fail
      refine (specTypeValid_any ty _ _ _ (ht1.below hb0)).mono ?_
      rintro e w2 ⟨rfl, hb1⟩
      rw [hT]
      have b1 := below_trans hb0 hb1
      obtain ⟨x0, x1, x2, x3, x4, x5, x6, x7, x8⟩ := box9 hb1
      go_wp2_with fail
      refine (l2None_any fr _ _ _ (ht2.below b1)).mono ?_
      rintro e w3 ⟨rfl, hb2⟩
      rw [hF]
      have b2 := below_trans b1 hb2
      replace x0 := cell_keep x0 hb2
      replace x2 := cell_keep x2 hb2
      replace x7 := cell_keep x7 hb2
      go_wp2_with fail
      go_ret
      first | exact ⟨ret_b HR.out.symm, b2⟩ | exact ⟨ret_b (by rw [HR.out]; simp; omega), b2⟩
    subst hL
    have HR := hid (show ownM 5 nm num ty fr 0 = (num == 0) by simp [ownM, hF, hN, hT])
    go_enter Tryd.func68, Tryd.ntmps68
    go_wp2_with fail
    refine (l2Name_any nm hnm _).mono ?_
    rintro e w1 ⟨rfl, rfl⟩
    rw [hI]
    go_wp2_with fail
    refine (specTypeValid_any ty _ _ _ (ht1.below hb0)).mono ?_
    rintro e w2 ⟨rfl, hb1⟩
    rw [hT]
    have b1 := below_trans hb0 hb1
    obtain ⟨x0, x1, x2, x3, x4, x5, x6, x7, x8⟩ := box9 hb1
    go_wp2_with fail
    refine (l2None_any fr _ _ _ (ht2.below b1)).mono ?_
    rintro e w3 ⟨rfl, hb2⟩
    rw [hF]
    have b2 := below_trans b1 hb2
    replace x0 := cell_keep x0 hb2
    replace x2 := cell_keep x2 hb2
    replace x7 := cell_keep x7 hb2
    go_wp2_with fail
    go_ret
    first | exact ⟨ret_b HR.out.symm, b2⟩ | exact ⟨ret_b (by rw [HR.out]; simp; omega), b2⟩
  by_cases hk13 : k = 13
  · subst hk13
    cases hI : isNm nm
    case true =>
      have hN : nm.size ≠ 0 := by intro h; rw [isNm_size (by omega)] at hI; cases hI
      have HR := hid (show ownM 13 nm num ty fr lb = false by simp [ownM, hN])
      go_enter Tryd.func68, Tryd.ntmps68
      go_wp2_with fail
      refine (l2Name_any nm hnm _).mono ?_
      rintro e w1 ⟨rfl, rfl⟩
      rw [hI]
      go_wp2_with fail
      go_ret
      first | exact ⟨ret_b HR.out.symm, hb0⟩ | exact ⟨ret_b (by rw [HR.out]; simp; omega), hb0⟩
    by_cases hN : nm.size = 0
    case neg =>
      have hz1 := ne_empty hN
      have HR := hid (show ownM 13 nm num ty fr lb = false by simp [ownM, hN])
      go_enter Tryd.func68, Tryd.ntmps68
      go_wp2_with fail
      refine (l2Name_any nm hnm _).mono ?_
      rintro e w1 ⟨rfl, rfl⟩
      rw [hI]
      go_wp2_with fail
      go_ret
      first | exact ⟨ret_b HR.out.symm, hb0⟩ | exact ⟨ret_b (by rw [HR.out]; simp; omega), hb0⟩
    have hz := empty_of_size hN
    subst hz
    cases hT : vld ty
    case false =>
      have HR := hid (show ownM 13 ⟨#[]⟩ num ty fr lb = false by simp [ownM, hN, hT])
      go_enter Tryd.func68, Tryd.ntmps68
      go_wp2_with fail
      refine (l2Name_any ⟨#[]⟩ hnm _).mono ?_
      rintro e w1 ⟨rfl, rfl⟩
      rw [hI]
      go_wp2_with fail
      refine (specTypeValid_any ty _ _ _ (ht1.below hb0)).mono ?_
      rintro e w2 ⟨rfl, hb1⟩
      rw [hT]
      have b1 := below_trans hb0 hb1
      obtain ⟨x0, x1, x2, x3, x4, x5, x6, x7, x8⟩ := box9 hb1
      go_wp2_with fail
      go_ret
      first | exact ⟨ret_b HR.out.symm, b1⟩ | exact ⟨ret_b (by rw [HR.out]; simp; omega), b1⟩
    cases hF : noTy fr
    case false =>
      have HR := hid (show ownM 13 ⟨#[]⟩ num ty fr lb = false by simp [ownM, hF, hN, hT])
      go_enter Tryd.func68, Tryd.ntmps68
      go_wp2_with fail
      refine (l2Name_any ⟨#[]⟩ hnm _).mono ?_
      rintro e w1 ⟨rfl, rfl⟩
      rw [hI]
      go_wp2_with fail
      refine (specTypeValid_any ty _ _ _ (ht1.below hb0)).mono ?_
      rintro e w2 ⟨rfl, hb1⟩
      rw [hT]
      have b1 := below_trans hb0 hb1
      obtain ⟨x0, x1, x2, x3, x4, x5, x6, x7, x8⟩ := box9 hb1
      go_wp2_with fail
      refine (l2None_any fr _ _ _ (ht2.below b1)).mono ?_
      rintro e w3 ⟨rfl, hb2⟩
      rw [hF]
      have b2 := below_trans b1 hb2
      replace x0 := cell_keep x0 hb2
      replace x2 := cell_keep x2 hb2
      replace x7 := cell_keep x7 hb2
      go_wp2_with fail
      go_ret
      first | exact ⟨ret_b HR.out.symm, b2⟩ | exact ⟨ret_b (by rw [HR.out]; simp; omega), b2⟩
    by_cases hL : lb = 0
    case neg =>
      have hl1 : (lb == 0) = false := by simpa using hL
      have hl2 : (lb != 0) = true := by simpa using hL
      have HR := hid (show ownM 13 ⟨#[]⟩ num ty fr lb = false by simp [ownM, hF, hL, hN, hT])
      go_enter Tryd.func68, Tryd.ntmps68
      go_wp2_with fail
      refine (l2Name_any ⟨#[]⟩ hnm _).mono ?_
      rintro e w1 ⟨rfl, rfl⟩
      rw [hI]
      go_wp2_with fail
      refine (specTypeValid_any ty _ _ _ (ht1.below hb0)).mono ?_
      rintro e w2 ⟨rfl, hb1⟩
      rw [hT]
      have b1 := below_trans hb0 hb1
      obtain ⟨x0, x1, x2, x3, x4, x5, x6, x7, x8⟩ := box9 hb1
      go_wp2_with fail
      refine (l2None_any fr _ _ _ (ht2.below b1)).mono ?_
      rintro e w3 ⟨rfl, hb2⟩
      rw [hF]
      have b2 := below_trans b1 hb2
      replace x0 := cell_keep x0 hb2
      replace x2 := cell_keep x2 hb2
      replace x7 := cell_keep x7 hb2
      go_wp2_with fail
      go_ret
      first | exact ⟨ret_b HR.out.symm, b2⟩ | exact ⟨ret_b (by rw [HR.out]; simp; omega), b2⟩
    subst hL
    have HR := hid (show ownM 13 ⟨#[]⟩ num ty fr 0 = (num == 0) by simp [ownM, hF, hN, hT])
    go_enter Tryd.func68, Tryd.ntmps68
    go_wp2_with fail
    refine (l2Name_any ⟨#[]⟩ hnm _).mono ?_
    rintro e w1 ⟨rfl, rfl⟩
    rw [hI]
    go_wp2_with fail
    refine (specTypeValid_any ty _ _ _ (ht1.below hb0)).mono ?_
    rintro e w2 ⟨rfl, hb1⟩
    rw [hT]
    have b1 := below_trans hb0 hb1
    obtain ⟨x0, x1, x2, x3, x4, x5, x6, x7, x8⟩ := box9 hb1
    go_wp2_with fail
    refine (l2None_any fr _ _ _ (ht2.below b1)).mono ?_
    rintro e w3 ⟨rfl, hb2⟩
    rw [hF]
    have b2 := below_trans b1 hb2
    replace x0 := cell_keep x0 hb2
    replace x2 := cell_keep x2 hb2
    replace x7 := cell_keep x7 hb2
    go_wp2_with fail
    go_ret
    first | exact ⟨ret_b HR.out.symm, b2⟩ | exact ⟨ret_b (by rw [HR.out]; simp; omega), b2⟩
  by_cases hk14 : k = 14
  · subst hk14
    cases hI : isNm nm
    case true =>
      have hN : nm.size ≠ 0 := by intro h; rw [isNm_size (by omega)] at hI; cases hI
      have HR := hid (show ownM 14 nm num ty fr lb = false by simp [ownM, hN])
      go_enter Tryd.func68, Tryd.ntmps68
      go_wp2_with fail
      refine (l2Name_any nm hnm _).mono ?_
      rintro e w1 ⟨rfl, rfl⟩
      rw [hI]
      go_wp2_with fail
      go_ret
      first | exact ⟨ret_b HR.out.symm, hb0⟩ | exact ⟨ret_b (by rw [HR.out]; simp; omega), hb0⟩
    by_cases hN : nm.size = 0
    case neg =>
      have hz1 := ne_empty hN
      have HR := hid (show ownM 14 nm num ty fr lb = false by simp [ownM, hN])
      go_enter Tryd.func68, Tryd.ntmps68
      go_wp2_with fail
      refine (l2Name_any nm hnm _).mono ?_
      rintro e w1 ⟨rfl, rfl⟩
      rw [hI]
      go_wp2_with fail
      go_ret
      first | exact ⟨ret_b HR.out.symm, hb0⟩ | exact ⟨ret_b (by rw [HR.out]; simp; omega), hb0⟩
    have hz := empty_of_size hN
    subst hz
    cases hT : vld ty
    case false =>
      have HR := hid (show ownM 14 ⟨#[]⟩ num ty fr lb = false by simp [ownM, hN, hT])
      go_enter Tryd.func68, Tryd.ntmps68
      go_wp2_with fail
      refine (l2Name_any ⟨#[]⟩ hnm _).mono ?_
      rintro e w1 ⟨rfl, rfl⟩
      rw [hI]
      go_wp2_with fail
      refine (specTypeValid_any ty _ _ _ (ht1.below hb0)).mono ?_
      rintro e w2 ⟨rfl, hb1⟩
      rw [hT]
      have b1 := below_trans hb0 hb1
      obtain ⟨x0, x1, x2, x3, x4, x5, x6, x7, x8⟩ := box9 hb1
      go_wp2_with fail
      go_ret
      first | exact ⟨ret_b HR.out.symm, b1⟩ | exact ⟨ret_b (by rw [HR.out]; simp; omega), b1⟩
    have HR := hid (show ownM 14 ⟨#[]⟩ num ty fr lb = (num == 0) by simp [ownM, hN, hT])
    go_enter Tryd.func68, Tryd.ntmps68
    go_wp2_with fail
    refine (l2Name_any ⟨#[]⟩ hnm _).mono ?_
    rintro e w1 ⟨rfl, rfl⟩
    rw [hI]
    go_wp2_with fail
    refine (specTypeValid_any ty _ _ _ (ht1.below hb0)).mono ?_
    rintro e w2 ⟨rfl, hb1⟩
    rw [hT]
    have b1 := below_trans hb0 hb1
    obtain ⟨x0, x1, x2, x3, x4, x5, x6, x7, x8⟩ := box9 hb1
    go_wp2_with fail
    go_ret
    first | exact ⟨ret_b HR.out.symm, b1⟩ | exact ⟨ret_b (by rw [HR.out]; simp; omega), b1⟩
  have e1 : (k == 1) = false := by simpa using hk1
  have d1 : (k != 1) = true := by simpa using hk1
  have n1 := hk1
  have e2 : (k == 2) = false := by simpa using hk2
  have d2 : (k != 2) = true := by simpa using hk2
  have n2 := hk2
  have e5 : (k == 5) = false := by simpa using hk5
  have d5 : (k != 5) = true := by simpa using hk5
  have n5 := hk5
  have e13 : (k == 13) = false := by simpa using hk13
  have d13 : (k != 13) = true := by simpa using hk13
  have n13 := hk13
  have e14 : (k == 14) = false := by simpa using hk14
  have d14 : (k != 14) = true := by simpa using hk14
  have n14 := hk14
  cases hI : isNm nm
  case true =>
    have hN : nm.size ≠ 0 := by intro h; rw [isNm_size (by omega)] at hI; cases hI
    have HR := hid (show ownM k nm num ty fr lb = false by simp [ownM, n1, n5, hN])
    go_enter Tryd.func68, Tryd.ntmps68
    go_wp2_with fail
    refine (l2Name_any nm hnm _).mono ?_
    rintro e w1 ⟨rfl, rfl⟩
    rw [hI]
    go_wp2_with fail
    go_ret
    first | exact ⟨ret_b HR.out.symm, hb0⟩ | exact ⟨ret_b (by rw [HR.out]; simp; omega), hb0⟩
  by_cases hN : nm.size = 0
  case neg =>
    have hz1 := ne_empty hN
    have HR := hid (show ownM k nm num ty fr lb = false by simp [ownM, n1, n5, hN])
    go_enter Tryd.func68, Tryd.ntmps68
    go_wp2_with fail
    refine (l2Name_any nm hnm _).mono ?_
    rintro e w1 ⟨rfl, rfl⟩
    rw [hI]
    go_wp2_with fail
    go_ret
    first | exact ⟨ret_b HR.out.symm, hb0⟩ | exact ⟨ret_b (by rw [HR.out]; simp; omega), hb0⟩
  have hz := empty_of_size hN
  subst hz
  cases hT : noTy ty
  case false =>
    have HR := hid (show ownM k ⟨#[]⟩ num ty fr lb = false by simp [ownM, n1, n5, n13, n14, hN, hT])
    go_enter Tryd.func68, Tryd.ntmps68
    go_wp2_with fail
    refine (l2Name_any ⟨#[]⟩ hnm _).mono ?_
    rintro e w1 ⟨rfl, rfl⟩
    rw [hI]
    go_wp2_with fail
    refine (l2None_any ty _ _ _ (ht1.below hb0)).mono ?_
    rintro e w2 ⟨rfl, hb1⟩
    rw [hT]
    have b1 := below_trans hb0 hb1
    obtain ⟨x0, x1, x2, x3, x4, x5, x6, x7, x8⟩ := box9 hb1
    go_wp2_with fail
    go_ret
    first | exact ⟨ret_b HR.out.symm, b1⟩ | exact ⟨ret_b (by rw [HR.out]; simp; omega), b1⟩
  cases hF : noTy fr
  case false =>
    have HR := hid (show ownM k ⟨#[]⟩ num ty fr lb = false by simp [ownM, n1, n5, n13, n14, hF, hN, hT])
    go_enter Tryd.func68, Tryd.ntmps68
    go_wp2_with fail
    refine (l2Name_any ⟨#[]⟩ hnm _).mono ?_
    rintro e w1 ⟨rfl, rfl⟩
    rw [hI]
    go_wp2_with fail
    refine (l2None_any ty _ _ _ (ht1.below hb0)).mono ?_
    rintro e w2 ⟨rfl, hb1⟩
    rw [hT]
    have b1 := below_trans hb0 hb1
    obtain ⟨x0, x1, x2, x3, x4, x5, x6, x7, x8⟩ := box9 hb1
    go_wp2_with fail
    refine (l2None_any fr _ _ _ (ht2.below b1)).mono ?_
    rintro e w3 ⟨rfl, hb2⟩
    rw [hF]
    have b2 := below_trans b1 hb2
    replace x0 := cell_keep x0 hb2
    replace x2 := cell_keep x2 hb2
    replace x7 := cell_keep x7 hb2
    go_wp2_with fail
    go_ret
    first | exact ⟨ret_b HR.out.symm, b2⟩ | exact ⟨ret_b (by rw [HR.out]; simp; omega), b2⟩
  by_cases hL : lb = 0
  case neg =>
    have hl1 : (lb == 0) = false := by simpa using hL
    have hl2 : (lb != 0) = true := by simpa using hL
    have HR := hid (show ownM k ⟨#[]⟩ num ty fr lb = false by simp [ownM, n1, n5, n13, n14, hF, hL, hN, hT])
    go_enter Tryd.func68, Tryd.ntmps68
    go_wp2_with fail
    refine (l2Name_any ⟨#[]⟩ hnm _).mono ?_
    rintro e w1 ⟨rfl, rfl⟩
    rw [hI]
    go_wp2_with fail
    refine (l2None_any ty _ _ _ (ht1.below hb0)).mono ?_
    rintro e w2 ⟨rfl, hb1⟩
    rw [hT]
    have b1 := below_trans hb0 hb1
    obtain ⟨x0, x1, x2, x3, x4, x5, x6, x7, x8⟩ := box9 hb1
    go_wp2_with fail
    refine (l2None_any fr _ _ _ (ht2.below b1)).mono ?_
    rintro e w3 ⟨rfl, hb2⟩
    rw [hF]
    have b2 := below_trans b1 hb2
    replace x0 := cell_keep x0 hb2
    replace x2 := cell_keep x2 hb2
    replace x7 := cell_keep x7 hb2
    go_wp2_with fail
    go_ret
    first | exact ⟨ret_b HR.out.symm, b2⟩ | exact ⟨ret_b (by rw [HR.out]; simp; omega), b2⟩
  subst hL
  have HR := hid (show ownM k ⟨#[]⟩ num ty fr 0 = (num == 0) by simp [ownM, n1, n5, n13, n14, n2, hF, hN, hT])
  go_enter Tryd.func68, Tryd.ntmps68
  go_wp2_with fail
  refine (l2Name_any ⟨#[]⟩ hnm _).mono ?_
  rintro e w1 ⟨rfl, rfl⟩
  rw [hI]
  go_wp2_with fail
  refine (l2None_any ty _ _ _ (ht1.below hb0)).mono ?_
  rintro e w2 ⟨rfl, hb1⟩
  rw [hT]
  have b1 := below_trans hb0 hb1
  obtain ⟨x0, x1, x2, x3, x4, x5, x6, x7, x8⟩ := box9 hb1
  go_wp2_with fail
  refine (l2None_any fr _ _ _ (ht2.below b1)).mono ?_
  rintro e w3 ⟨rfl, hb2⟩
  rw [hF]
  have b2 := below_trans b1 hb2
  replace x0 := cell_keep x0 hb2
  replace x2 := cell_keep x2 hb2
  replace x7 := cell_keep x7 hb2
  go_wp2_with fail
  go_ret
  first | exact ⟨ret_b HR.out.symm, b2⟩ | exact ⟨ret_b (by rw [HR.out]; simp; omega), b2⟩
end Go.Proofs.YtjpmlmdbldcbjaaDoor

/- StaticTerm, of the specification and of the program. -/
import Derived.Test.YthdmkenckhmjpaaDoorTysS
import Derived.Test.YthdmkenckhmjpaaDoorTysT
import Derived.Test.YthdmkenckhmjpaaDoorSta
namespace Go.Proofs.YthdmkenckhmjpaaDoor
open Go.RowKit

def zer (u : Ty) : Bool := cntAny u == 0
def staM (t : Tm) : Bool := vldM t && (tyLst t).all zer

theorem mem_tysL : ∀ {ts : List Tm} {u : Ty}, u ∈ tysL ts → ∃ t ∈ ts, u ∈ tysOf t
  | t :: ts, u, h => by
    simp only [tysL] at h
    rcases List.mem_append.1 h with h | h
    · exact ⟨t, by simp, h⟩
    · obtain ⟨t', ht, hu⟩ := mem_tysL h
      exact ⟨t', by simp [ht], hu⟩

theorem tysOf_cnt : ∀ (t : Tm) (u : Ty), u ∈ tysOf t → u.cnt ≤ t.sz := Tm.ind fun k nm num ty fr lb ts ih u h => by
  simp only [tysOf] at h
  simp only [Tm.sz]
  rcases List.mem_append.1 h with h | h
  · have : u = ty := by
      split at h
      · simpa using h
      · cases h
    subst this
    omega
  · obtain ⟨t, ht, hu⟩ := mem_tysL h
    have := ih t ht u hu
    have := sz_mem ht
    omega

theorem tysOf_vld : ∀ (d : Nat) (t : Tm), shpM d t = true → ∀ u ∈ tysOf t, vld u = true
  | 0, _, h => by simp [shpM] at h
  | d + 1, .mk k nm num ty fr lb ts, h => by
    intro u hu
    simp only [shpM, Bool.and_eq_true, List.all_eq_true] at h
    obtain ⟨⟨⟨_, _⟩, ho⟩, hk⟩ := h
    simp only [tysOf] at hu
    rcases List.mem_append.1 hu with hu | hu
    · simp only [ownM, Bool.and_eq_true] at ho
      split at hu
      · rename_i hk5
        have := ho.1.1.2
        rw [if_pos (by omega)] at this
        have e : u = ty := by simpa using hu
        rw [e]; exact this
      · cases hu
    · obtain ⟨t, ht, hu⟩ := mem_tysL hu
      exact tysOf_vld d t (hk t ht) u hu

theorem tyLst_in {t : Tm} {u : Ty} (h : u ∈ tyLst t) : vldM t = true ∧ u ∈ tysOf t := by
  unfold tyLst at h
  split at h
  · exact ⟨by assumption, h⟩
  · cases h

theorem zer_take {L : List Ty} {k : Nat} (h : k < L.length) : (L.take (k + 1)).all zer = ((L.take k).all zer && zer L[k]) := by
  rw [List.take_succ_eq_append_getElem h, List.all_append]
  simp

theorem zer_false {L : List Ty} {k : Nat} (h : k < L.length) (hb : zer L[k] = false) : L.all zer = false := by
  rw [List.all_eq_false]
  exact ⟨L[k], List.getElem_mem h, by simp [hb]⟩

set_option maxHeartbeats 1000000 in
theorem specStaticTerm (t : Tm) (v : Value) (fp : List Nat) (w : World) (hsz : t.sz ≤ 1048576) (hat : t.At w v fp) :
    Calls Tryd.prog 19 #[v] w fun e w' => e = .returned (.bool (staM t)) ∧ Below w.heap.size w w' := by
  have hat0 := hat
  obtain ⟨k, nm, num, k1, n1, a1, c1, k2, n2, a2, c2, lb, n3, a3, c3, rfl⟩ := hat.agg
  have hb0 : Below w.heap.size w (w.alloc (Obj.cells #[.int .i64 k, .string nm, .int .i64 num, .int .i64 k1, .slice a1 n1 c1, .int .i64 k2, .slice a2 n2 c2, .int .i64 lb, .slice a3 n3 c3] 34)) := (Below.refl _ _).alloc (Nat.le_refl _) _
  have HAT := hid (hat0.below hb0)
  have HV := hid (fun (w' : World) (h : t.At w' (.agg #[.int .i64 k, .string nm, .int .i64 num, .int .i64 k1, .slice a1 n1 c1, .int .i64 k2, .slice a2 n2 c2, .int .i64 lb, .slice a3 n3 c3]) fp) => specTermValid t _ fp w' hsz h)
  have HL := hid (specTermTypes t _ _ _ hsz (hat0.below hb0))
  have HS := hid (show staM t = (vldM t && (tyLst t).all zer) from rfl)
  have HC := hid (show ∀ u ∈ tyLst t, u.cnt ≤ 1048576 from fun u hu => Nat.le_trans (tysOf_cnt t u (tyLst_in hu).2) hsz)
  generalize tyLst t = L at *
  generalize vldM t = r at *
  clear hat hat0
  go_enter Tryd.func19, Tryd.ntmps19
  go_wp2_with fail
  refine HL.out.mono ?_
  rintro e w1 ⟨s, f, rfl, hs, hf, hb1⟩
  obtain ⟨z0, z1, z2, z3, z4, z5, z6, z7, z8⟩ := box9 hb1
  have b1 := below_trans hb0 hb1
  have hat1 := HAT.out.below hb1
  obtain ⟨la, lcap, rfl, hlc, hlm, hget⟩ := hs.openA
  have HG := hid hget
  clear hget hs hf hb1 hb0
  go_wp2_with fail
  go_loopw [4] (fun i wr => ∃ j : Nat, j ≤ L.length ∧ i = .int .i64 j ∧ (L.take j).all zer = true ∧ Below w1.heap.size w1 wr) (fun i _ => L.length - (intOf i).toNat)
  case atStart => exact ⟨0, Nat.zero_le _, rfl, rfl, Below.refl _ _⟩
  case round =>
    obtain ⟨j, hj, rfl, hok, hb⟩ := hrel
    have HOK := hid hok
    clear hok
    by_cases hlk : j < L.length
    · obtain ⟨b, o, kk, nn, aa, cc, g, rfl, hblt, d0, d1, hatu, -⟩ := HG.out j hlk
      replace d0 := cell_keep d0 hb
      replace d1 := cell_keep d1 hb
      have HT := hid (zer_take hlk)
      have HF := hid (zer_false hlk)
      have hcn := HC.out _ (List.getElem_mem hlk)
      have hnn := cntAny_bd L[j]
      have HZ := hid (show zer L[j] = (cntAny L[j] == 0) from rfl)
      go_wp2_with fail
      refine (l1Count_any L[j] _ _ _ (hatu.below hb) hcn).mono ?_
      rintro e w2 ⟨rfl, hb2⟩
      have hbb := below_trans hb hb2
      clear hb hb2 hatu d0 d1
      generalize cntAny L[j] = c at *
      by_cases hc : 0 < c
      · have hz : zer L[j] = false := by rw [HZ.out]; simp; omega
        have HR := hid (show staM t = false by rw [HS.out, HF.out hz, Bool.and_false])
        clear hz
        go_wp2_with fail
        go_ret
        exact ⟨ret_b HR.out.symm, below_trans b1 hbb⟩
      · have hz : zer L[j] = true := by rw [HZ.out]; simp; omega
        have HR := hid (show (L.take (j + 1)).all zer = true by rw [HT.out, HOK.out, hz]; rfl)
        clear hz
        go_wp2_with fail
        go_roundw
        case rel => exact ⟨j + 1, by omega, by go_num, HR.out, hbb⟩
        case measure => simp [intOf]; omega
    · have HR := hid (show staM t = r by
        have := HOK.out
        rw [List.take_of_length_le (by omega)] at this
        rw [HS.out, this, Bool.and_true])
      replace z0 := cell_keep z0 hb
      replace z1 := cell_keep z1 hb
      replace z2 := cell_keep z2 hb
      replace z3 := cell_keep z3 hb
      replace z4 := cell_keep z4 hb
      replace z5 := cell_keep z5 hb
      replace z6 := cell_keep z6 hb
      replace z7 := cell_keep z7 hb
      replace z8 := cell_keep z8 hb
      go_wp2_with fail
      refine (HV.out _ (hat1.below hb)).mono ?_
      rintro e w3 ⟨rfl, hb3⟩
      go_wp2_with fail
      go_ret
      exact ⟨ret_b HR.out.symm, below_trans (below_trans b1 hb) hb3⟩

set_option maxHeartbeats 1000000 in
theorem implStaticTerm (t : Tm) (v : Value) (fp : List Nat) (w : World) (hsz : t.sz ≤ 1048576) (hF : Forms w) (hat : t.At w v fp) :
    Calls Tryd.prog 20 #[v] w fun e w' => e = .returned (.bool (staM t)) ∧ Below w.heap.size w w' := by
  have hat0 := hat
  obtain ⟨k, nm, num, k1, n1, a1, c1, k2, n2, a2, c2, lb, n3, a3, c3, rfl⟩ := hat.agg
  have hb0 : Below w.heap.size w (w.alloc (Obj.cells #[.int .i64 k, .string nm, .int .i64 num, .int .i64 k1, .slice a1 n1 c1, .int .i64 k2, .slice a2 n2 c2, .int .i64 lb, .slice a3 n3 c3] 34)) := (Below.refl _ _).alloc (Nat.le_refl _) _
  have HAT := hid (hat0.below hb0)
  have HFM := hid (hF.below hb0)
  have HV := hid (implTermValid t _ _ _ (hF.below hb0) (hat0.below hb0))
  have HL := hid (fun (w' : World) (hF' : Forms w') (h : t.At w' (.agg #[.int .i64 k, .string nm, .int .i64 num, .int .i64 k1, .slice a1 n1 c1, .int .i64 k2, .slice a2 n2 c2, .int .i64 lb, .slice a3 n3 c3]) fp) => implTermTypes t _ fp w' hsz hF' h)
  have HS := hid (show staM t = (vldM t && (tyLst t).all zer) from rfl)
  have HC := hid (show ∀ u ∈ tyLst t, u.cnt ≤ 1048576 from fun u hu => Nat.le_trans (tysOf_cnt t u (tyLst_in hu).2) hsz)
  have HW := hid (show ∀ u ∈ tyLst t, vld u = true from fun u hu => by
    obtain ⟨h1, h2⟩ := tyLst_in hu
    unfold vldM at h1
    simp only [Bool.and_eq_true] at h1
    exact tysOf_vld 12 t h1.1 u h2)
  generalize tyLst t = L at *
  generalize vldM t = r at *
  clear hat hat0 hF
  go_enter Tryd.func20, Tryd.ntmps20
  go_wp2_with fail
  refine HV.out.mono ?_
  rintro e w1 ⟨rfl, hb1⟩
  obtain ⟨z0, z1, z2, z3, z4, z5, z6, z7, z8⟩ := box9 hb1
  have b1 := below_trans hb0 hb1
  have hat1 := HAT.out.below hb1
  have hF1 := HFM.out.below hb1
  cases r
  · have HR := hid (show staM t = false by rw [HS.out]; rfl)
    go_wp2_with fail
    go_ret
    exact ⟨ret_b HR.out.symm, b1⟩
  have HS' := hid (show staM t = L.all zer by rw [HS.out, Bool.true_and])
  clear HS hb0 hb1
  go_wp2_with fail
  refine (HL.out _ hF1 hat1).mono ?_
  rintro e w2 ⟨s, f, rfl, hs, hf, hb2⟩
  have b2 := below_trans b1 hb2
  obtain ⟨la, lcap, rfl, hlc, hlm, hget⟩ := hs.openA
  have HG := hid hget
  clear hget hs hf hb2 b1 hat1 hF1 z0 z1 z2 z3 z4 z5 z6 z7 z8
  go_wp2_with fail
  go_loopw [11] (fun i wr => ∃ j : Nat, j ≤ L.length ∧ i = .int .i64 j ∧ (L.take j).all zer = true ∧ Below w2.heap.size w2 wr) (fun i _ => L.length - (intOf i).toNat)
  case atStart => exact ⟨0, Nat.zero_le _, rfl, rfl, Below.refl _ _⟩
  case round =>
    obtain ⟨j, hj, rfl, hok, hb⟩ := hrel
    have HOK := hid hok
    clear hok
    by_cases hlk : j < L.length
    · obtain ⟨b, o, kk, nn, aa, cc, g, rfl, hblt, d0, d1, hatu, -⟩ := HG.out j hlk
      replace d0 := cell_keep d0 hb
      replace d1 := cell_keep d1 hb
      have HT := hid (zer_take hlk)
      have HF := hid (zer_false hlk)
      have hcn := HC.out _ (List.getElem_mem hlk)
      have HZ := hid (show staOf L[j] = zer L[j] by rw [staOf, HW.out _ (List.getElem_mem hlk)]; rfl)
      have hal : Below wr.heap.size wr (wr.alloc (Obj.cells #[.int .i64 kk, .slice aa nn cc] 31)) := (Below.refl _ _).alloc (Nat.le_refl _) _
      have hba := below_trans hb hal
      go_wp2_with fail
      refine (implIsStatic L[j] _ _ _ (hatu.below hba) hcn).mono ?_
      rw [HZ.out]
      rintro e w3 ⟨rfl, hb2⟩
      have hbb := below_trans hba hb2
      clear hb hb2 hatu d0 d1 hal hba
      cases hz : zer L[j] with
      | false =>
        have HR := hid (show staM t = false by rw [HS'.out, HF.out hz])
        clear hz
        go_wp2_with fail
        go_ret
        exact ⟨ret_b HR.out.symm, below_trans b2 hbb⟩
      | true =>
        have HR := hid (show (L.take (j + 1)).all zer = true by rw [HT.out, HOK.out, hz]; rfl)
        clear hz
        go_wp2_with fail
        go_roundw
        case rel => exact ⟨j + 1, by omega, by go_num, HR.out, hbb⟩
        case measure => simp [intOf]; omega
    · have HR := hid (show staM t = true by
        have := HOK.out
        rw [List.take_of_length_le (by omega)] at this
        rw [HS'.out, this])
      go_wp2_with fail
      go_ret
      exact ⟨ret_b HR.out.symm, below_trans b2 hb⟩
end Go.Proofs.YthdmkenckhmjpaaDoor

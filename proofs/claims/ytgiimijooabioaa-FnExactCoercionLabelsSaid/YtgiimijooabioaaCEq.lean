/- The laws' own helper eqCoercion: equality of trees, at every level. -/
import Derived.Test.YtgiimijooabioaaCo
import Derived.StillTailTactics
namespace Go.Proofs.Ytgiimijooabioaa
open Go.RowKit

mutual
def coEq : Co → Co → Bool
  | .mk k g l ts, .mk k' g' l' us => (k == k') && ((g == g') && ((l == l') && coEqL ts us))
def coEqL : List Co → List Co → Bool
  | [], [] => true
  | t :: ts, u :: us => coEq t u && coEqL ts us
  | _, _ => false
end

theorem coEqL_len : ∀ {ts us : List Co}, ts.length ≠ us.length → coEqL ts us = false
  | [], [], h => by simp at h
  | [], _ :: _, _ => by simp only [coEqL]
  | _ :: _, [], _ => by simp only [coEqL]
  | t :: ts, u :: us, h => by simp only [coEqL]; rw [coEqL_len (by simpa using h)]; simp

mutual
theorem coEq_refl : ∀ t : Co, coEq t t = true
  | .mk k g l ts => by simp [coEq, coEqL_refl ts]
theorem coEqL_refl : ∀ ts : List Co, coEqL ts ts = true
  | [] => by simp only [coEqL]
  | t :: ts => by simp [coEqL, coEq_refl t, coEqL_refl ts]
end

mutual
theorem eq_of_coEq : ∀ {t u : Co}, coEq t u = true → t = u
  | .mk k g l ts, .mk k' g' l' us, h => by
    simp only [coEq, Bool.and_eq_true, beq_iff_eq] at h
    rw [h.1, h.2.1, h.2.2.1, eq_of_coEqL h.2.2.2]
theorem eq_of_coEqL : ∀ {ts us : List Co}, coEqL ts us = true → ts = us
  | [], [], _ => rfl
  | [], _ :: _, h => by simp only [coEqL] at h; cases h
  | _ :: _, [], h => by simp only [coEqL] at h; cases h
  | t :: ts, u :: us, h => by
    simp only [coEqL, Bool.and_eq_true] at h
    rw [eq_of_coEq h.1, eq_of_coEqL h.2]
end

theorem coEqL_step {ts us : List Co} {k : Nat} (h : k < ts.length) (h' : k < us.length) : coEqL (ts.drop k) (us.drop k) = (coEq ts[k] us[k] && coEqL (ts.drop (k + 1)) (us.drop (k + 1))) := by
  rw [List.drop_eq_getElem_cons h, List.drop_eq_getElem_cons h', coEqL]

def EqqC (t : Co) : Prop := ∀ (u : Co) (v1 v2 : Value) (f1 f2 : List Nat) (w : World), t.At w v1 f1 → u.At w v2 f2 →
  Calls Try.prog 21 #[v1, v2] w fun e w' => e = .returned (.bool (coEq t u)) ∧ Below w.heap.size w w'

def EqqSC (ts : List Co) : Prop := ∀ (us : List Co) (s1 s2 : Value) (f1 f2 : List Nat) (w : World), CSl w ts s1 f1 → CSl w us s2 f2 →
  Calls Try.prog 41 #[s1, s2] w fun e w' => e = .returned (.bool (coEqL ts us)) ∧ Below w.heap.size w w'

set_option maxHeartbeats 400000 in
theorem eqCoer_of (k g l : Int) (ts : List Co) (ih : EqqSC ts) : EqqC (.mk k g l ts) := by
  intro u v1 v2 f1 f2 w h1 h2
  obtain ⟨s1, rfl, hs1⟩ := Co.at_mk.1 h1
  obtain ⟨k', g', l', us, rfl⟩ := u.shape
  obtain ⟨s2, rfl, hs2⟩ := Co.at_mk.1 h2
  have HIH := hid ih
  clear ih h1 h2
  have hal : Below w.heap.size w ((w.alloc (Obj.cells #[.int .i64 k, .int .i64 g, .int .i64 l, s1] 40)).alloc (Obj.cells #[.int .i64 k', .int .i64 g', .int .i64 l', s2] 40)) := ((Below.refl _ _).alloc (Nat.le_refl _) _).alloc (by simp) _
  have HAL := hid hal
  clear hal
  by_cases hk : k = k'
  case neg =>
    have HT := hid (show coEq (.mk k g l ts) (.mk k' g' l' us) = false by simp [coEq, hk])
    have hk' : (k == k') = false := by simpa using hk
    have hk'' : (k != k') = true := by simpa using hk
    clear hk
    go_enter Try.func21, Try.ntmps21
    go_wp2_with fail
    go_ret
    exact ⟨ret_b HT.out.symm, HAL.out⟩
  subst hk
  by_cases hg : g = g'
  case neg =>
    have HT := hid (show coEq (.mk k g l ts) (.mk k g' l' us) = false by simp [coEq, hg])
    have hg' : (g == g') = false := by simpa using hg
    have hg'' : (g != g') = true := by simpa using hg
    clear hg
    go_enter Try.func21, Try.ntmps21
    go_wp2_with fail
    go_ret
    exact ⟨ret_b HT.out.symm, HAL.out⟩
  subst hg
  by_cases hl : l = l'
  case neg =>
    have HT := hid (show coEq (.mk k g l ts) (.mk k g l' us) = false by simp [coEq, hl])
    have hl' : (l == l') = false := by simpa using hl
    have hl'' : (l != l') = true := by simpa using hl
    clear hl
    go_enter Try.func21, Try.ntmps21
    go_wp2_with fail
    go_ret
    exact ⟨ret_b HT.out.symm, HAL.out⟩
  subst hl
  have HT := hid (show coEq (.mk k g l ts) (.mk k g l us) = coEqL ts us by simp [coEq])
  go_enter Try.func21, Try.ntmps21
  go_wp2_with fail
  refine (HIH.out us _ _ _ _ _ (hs1.below HAL.out) (hs2.below HAL.out)).mono ?_
  rintro e w1 ⟨rfl, hb⟩
  have hbb := below_trans HAL.out hb
  clear hb
  generalize hr : coEqL ts us = r at *
  clear hr
  cases r
  all_goals
    go_wp2_with fail
    go_ret
    exact ⟨ret_b HT.out.symm, hbb⟩

set_option maxHeartbeats 400000 in
set_option maxRecDepth 100000 in
theorem eqCoerS_of (ts : List Co) (ih : ∀ t ∈ ts, EqqC t) : EqqSC ts := by
  intro us s1 s2 f1 f2 w hs1 hs2
  have HIH := hid ih
  clear ih
  obtain ⟨a, cap, rfl, hc, hm, hget⟩ := hs1.open
  have HG := hid hget
  obtain ⟨a2, cap2, rfl, hc2, hm2, hget2⟩ := hs2.open
  have HG2 := hid hget2
  clear hget hget2 hs1 hs2
  by_cases hl : ts.length = us.length
  · have HL := hid hl
    have hle : ts.length ≤ us.length := by omega
    have hle' : us.length ≤ ts.length := by omega
    have hl1 : ((ts.length : Int) != (us.length : Int)) = false := by simp [hl]
    have hl2 : ((ts.length : Int) == (us.length : Int)) = true := by simp [hl]
    clear hl
    go_enter Try.func41, Try.ntmps41
    go_wp2_with fail
    go_loopw [5] (fun i wr => ∃ k : Nat, k ≤ ts.length ∧ i = .int .i64 k ∧ coEqL (ts.drop k) (us.drop k) = coEqL ts us ∧ Below w.heap.size w wr) (fun i _ => ts.length - (intOf i).toNat)
    case atStart => exact ⟨0, Nat.zero_le _, rfl, rfl, Below.refl _ _⟩
    case round =>
      obtain ⟨k, hk, rfl, hdr, hb⟩ := hrel
      have HD := hid hdr
      clear hdr
      by_cases hlk : k < ts.length
      · have hlk2 : k < us.length := by omega
        obtain ⟨b, o, k1, g1, l1, n1, a1, cap1, f1, rfl, hblt, c0, c1, c2, c3, hat, hf⟩ := HG.out k hlk
        obtain ⟨b2, o2, k2, g2, l2, n2, a2, cap2, f2, rfl, hblt2, e0, e1, e2, e3, hat2, hf2⟩ := HG2.out k hlk2
        have d0 := (hb.cell (p := ⟨b, o + k * 4, none⟩) hblt).trans c0
        have d1 := (hb.cell (p := ⟨b, o + k * 4 + 1, none⟩) hblt).trans c1
        have d2 := (hb.cell (p := ⟨b, o + k * 4 + 2, none⟩) hblt).trans c2
        have d3 := (hb.cell (p := ⟨b, o + k * 4 + 3, none⟩) hblt).trans c3
        have d4 := (hb.cell (p := ⟨b2, o2 + k * 4, none⟩) hblt2).trans e0
        have d5 := (hb.cell (p := ⟨b2, o2 + k * 4 + 1, none⟩) hblt2).trans e1
        have d6 := (hb.cell (p := ⟨b2, o2 + k * 4 + 2, none⟩) hblt2).trans e2
        have d7 := (hb.cell (p := ⟨b2, o2 + k * 4 + 3, none⟩) hblt2).trans e3
        clear c0 c1 c2 c3 e0 e1 e2 e3
        have HST := hid (coEqL_step hlk hlk2)
        go_wp2_with fail
        go_still_tail 8, (by kernel_rfl)
        go_wp2_with fail
        refine (HIH.out _ (List.getElem_mem hlk) _ _ _ _ _ _ (hat.below ?_) (hat2.below ?_)).mono ?_
        · exact hb.drew
        · exact hb.drew
        rintro e w1 ⟨rfl, hb1⟩
        have hbb := below_trans hb.drew hb1
        clear hb hb1 hat hat2 d0 d1 d2 d3 d4 d5 d6 d7
        generalize coEq ts[k] us[k] = r at *
        cases r
        · go_wp2_with fail
          go_ret
          exact ⟨ret_b (by rw [← HD.out, HST.out, Bool.false_and]), hbb⟩
        · go_wp2_with fail
          go_roundw
          case rel => exact ⟨k + 1, by omega, by go_num, by rw [← HD.out, HST.out, Bool.true_and], hbb⟩
          case measure => simp [intOf]; omega
      · go_wp2_with fail
        go_ret
        exact ⟨ret_b (by rw [← HD.out, List.drop_of_length_le (by omega), List.drop_of_length_le (by omega)]; simp only [coEqL]), hb⟩
  · have HT := hid (coEqL_len hl)
    have hl1 : ((ts.length : Int) != (us.length : Int)) = true := by simp; omega
    have hl2 : ((ts.length : Int) == (us.length : Int)) = false := by simp; omega
    clear hl
    go_enter Try.func41, Try.ntmps41
    go_wp2_with fail
    go_ret
    exact ⟨ret_b HT.out.symm, Below.refl _ _⟩

/-- The helper's contract, for every tree. -/
theorem eqCoer_any : ∀ t : Co, EqqC t := Co.ind fun k g l ts ih => eqCoer_of k g l ts (eqCoerS_of ts ih)

end Go.Proofs.Ytgiimijooabioaa

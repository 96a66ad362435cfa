/- The laws' own helper eqType: equality of trees, at every level. -/
import Derived.Test.YtephhhnoobkbhaaTy
import Derived.StillTailTactics
namespace Go.Proofs.Ytephhhnoobkbhaa
open Go.RowKit

mutual
def tyEq : Ty → Ty → Bool
  | .mk k ts, .mk k' us => (k == k') && tyEqL ts us
def tyEqL : List Ty → List Ty → Bool
  | [], [] => true
  | t :: ts, u :: us => tyEq t u && tyEqL ts us
  | _, _ => false
end

theorem tyEqL_len : ∀ {ts us : List Ty}, ts.length ≠ us.length → tyEqL ts us = false
  | [], [], h => by simp at h
  | [], _ :: _, _ => by simp only [tyEqL]
  | _ :: _, [], _ => by simp only [tyEqL]
  | t :: ts, u :: us, h => by simp only [tyEqL]; rw [tyEqL_len (by simpa using h)]; simp

mutual
theorem tyEq_refl : ∀ t : Ty, tyEq t t = true
  | .mk k ts => by simp [tyEq, tyEqL_refl ts]
theorem tyEqL_refl : ∀ ts : List Ty, tyEqL ts ts = true
  | [] => by simp only [tyEqL]
  | t :: ts => by simp [tyEqL, tyEq_refl t, tyEqL_refl ts]
end

mutual
theorem eq_of_tyEq : ∀ {t u : Ty}, tyEq t u = true → t = u
  | .mk k ts, .mk k' us, h => by
    simp only [tyEq, Bool.and_eq_true, beq_iff_eq] at h
    rw [h.1, eq_of_tyEqL h.2]
theorem eq_of_tyEqL : ∀ {ts us : List Ty}, tyEqL ts us = true → ts = us
  | [], [], _ => rfl
  | [], _ :: _, h => by simp only [tyEqL] at h; cases h
  | _ :: _, [], h => by simp only [tyEqL] at h; cases h
  | t :: ts, u :: us, h => by
    simp only [tyEqL, Bool.and_eq_true] at h
    rw [eq_of_tyEq h.1, eq_of_tyEqL h.2]
end

theorem tyEq_comm (t u : Ty) : tyEq t u = tyEq u t := by
  cases h : tyEq t u with
  | true => rw [eq_of_tyEq h, tyEq_refl]
  | false =>
    cases h' : tyEq u t with
    | false => rfl
    | true => rw [eq_of_tyEq h', tyEq_refl] at h; cases h

theorem tyEqL_step {ts us : List Ty} {k : Nat} (h : k < ts.length) (h' : k < us.length) : tyEqL (ts.drop k) (us.drop k) = (tyEq ts[k] us[k] && tyEqL (ts.drop (k + 1)) (us.drop (k + 1))) := by
  rw [List.drop_eq_getElem_cons h, List.drop_eq_getElem_cons h', tyEqL]

def EqC (t : Ty) : Prop := ∀ (u : Ty) (v1 v2 : Value) (f1 f2 : List Nat) (w : World), t.At w v1 f1 → u.At w v2 f2 →
  Calls Try.prog 18 #[v1, v2] w fun e w' => e = .returned (.bool (tyEq t u)) ∧ Below w.heap.size w w'

def EqSC (ts : List Ty) : Prop := ∀ (us : List Ty) (s1 s2 : Value) (f1 f2 : List Nat) (w : World), SlAt w ts s1 f1 → SlAt w us s2 f2 →
  Calls Try.prog 58 #[s1, s2] w fun e w' => e = .returned (.bool (tyEqL ts us)) ∧ Below w.heap.size w w'

set_option maxHeartbeats 400000 in
theorem eqType_of (k : Int) (ts : List Ty) (ih : EqSC ts) : EqC (.mk k ts) := by
  intro u v1 v2 f1 f2 w h1 h2
  obtain ⟨s1, rfl, hs1⟩ := Ty.at_mk.1 h1
  obtain ⟨k', us, rfl⟩ := u.shape
  obtain ⟨s2, rfl, hs2⟩ := Ty.at_mk.1 h2
  have HIH := hid ih
  clear ih h1 h2
  have hal : Below w.heap.size w ((w.alloc (Obj.cells #[.int .i64 k, s1] 28)).alloc (Obj.cells #[.int .i64 k', s2] 28)) := ((Below.refl _ _).alloc (Nat.le_refl _) _).alloc (by simp) _
  have HAL := hid hal
  clear hal
  by_cases hk : k = k'
  · subst hk
    have HT := hid (show tyEq (.mk k ts) (.mk k us) = tyEqL ts us by simp [tyEq])
    go_enter Try.func18, Try.ntmps18
    go_wp2_with fail
    refine (HIH.out us _ _ _ _ _ (hs1.below HAL.out) (hs2.below HAL.out)).mono ?_
    rintro e w1 ⟨rfl, hb⟩
    have hbb := below_trans HAL.out hb
    clear hb
    generalize hr : tyEqL ts us = r at *
    clear hr
    cases r
    all_goals
      go_wp2_with fail
      go_ret
      exact ⟨ret_b HT.out.symm, hbb⟩
  · have HT := hid (show tyEq (.mk k ts) (.mk k' us) = false by simp [tyEq, hk])
    have hk' : (k == k') = false := by simpa using hk
    have hk'' : (k != k') = true := by simpa using hk
    clear hk
    go_enter Try.func18, Try.ntmps18
    go_wp2_with fail
    go_ret
    exact ⟨ret_b HT.out.symm, HAL.out⟩

set_option maxHeartbeats 400000 in
set_option maxRecDepth 100000 in
theorem eqTypeS_of (ts : List Ty) (ih : ∀ t ∈ ts, EqC t) : EqSC ts := by
  intro us s1 s2 f1 f2 w hs1 hs2
  have HIH := hid ih
  clear ih
  obtain ⟨a, cap, rfl, hc, hm, hget⟩ := hs1.open
  have HG := hid hget
  obtain ⟨a2, cap2, rfl, hc2, hm2, hget2⟩ := hs2.open
  have HG2 := hid hget2
  clear hget hget2 hs1 hs2
  by_cases hl : ts.length = us.length
  · have HL := hid hl
    have hle : ts.length ≤ us.length := by omega
    have hle' : us.length ≤ ts.length := by omega
    have hl1 : ((ts.length : Int) != (us.length : Int)) = false := by simp [hl]
    have hl2 : ((ts.length : Int) == (us.length : Int)) = true := by simp [hl]
    clear hl
    go_enter Try.func58, Try.ntmps58
    go_wp2_with fail
    go_loopw [5] (fun i wr => ∃ k : Nat, k ≤ ts.length ∧ i = .int .i64 k ∧ tyEqL (ts.drop k) (us.drop k) = tyEqL ts us ∧ Below w.heap.size w wr) (fun i _ => ts.length - (intOf i).toNat)
    case atStart => exact ⟨0, Nat.zero_le _, rfl, rfl, Below.refl _ _⟩
    case round =>
      obtain ⟨k, hk, rfl, hdr, hb⟩ := hrel
      have HD := hid hdr
      clear hdr
      by_cases hlk : k < ts.length
      · have hlk2 : k < us.length := by omega
        obtain ⟨b, o, v0, v1, g1, rfl, hblt, c0, c1, hat, hf⟩ := HG.out k hlk
        obtain ⟨b2, o2, u0, u1, g2, rfl, hblt2, e0, e1, hat2, hf2⟩ := HG2.out k hlk2
        have d0 := (hb.cell (p := ⟨b, o + k * 2, none⟩) hblt).trans c0
        have d1 := (hb.cell (p := ⟨b, o + k * 2 + 1, none⟩) hblt).trans c1
        have d2 := (hb.cell (p := ⟨b2, o2 + k * 2, none⟩) hblt2).trans e0
        have d3 := (hb.cell (p := ⟨b2, o2 + k * 2 + 1, none⟩) hblt2).trans e1
        clear c0 c1 e0 e1
        have HST := hid (tyEqL_step hlk hlk2)
        go_wp2_with fail
        go_still_tail 8, (by kernel_rfl)
        go_wp2_with fail
        refine (HIH.out _ (List.getElem_mem hlk) _ _ _ _ _ _ (hat.below ?_) (hat2.below ?_)).mono ?_
        · exact hb.drew
        · exact hb.drew
        rintro e w1 ⟨rfl, hb1⟩
        have hbb := below_trans hb.drew hb1
        clear hb hb1 hat hat2 d0 d1 d2 d3
        generalize tyEq ts[k] us[k] = r at *
        cases r
        · go_wp2_with fail
          go_ret
          exact ⟨ret_b (by rw [← HD.out, HST.out, Bool.false_and]), hbb⟩
        · go_wp2_with fail
          go_roundw
          case rel => exact ⟨k + 1, by omega, by go_num, by rw [← HD.out, HST.out, Bool.true_and], hbb⟩
          case measure => simp [intOf]; omega
      · go_wp2_with fail
        go_ret
        exact ⟨ret_b (by rw [← HD.out, List.drop_of_length_le (by omega), List.drop_of_length_le (by omega)]; simp only [tyEqL]), hb⟩
  · have HT := hid (tyEqL_len hl)
    have hl1 : ((ts.length : Int) != (us.length : Int)) = true := by simp; omega
    have hl2 : ((ts.length : Int) == (us.length : Int)) = false := by simp; omega
    clear hl
    go_enter Try.func58, Try.ntmps58
    go_wp2_with fail
    go_ret
    exact ⟨ret_b HT.out.symm, Below.refl _ _⟩

/-- The helper's contract, for every tree. -/
theorem eqType_any : ∀ t : Ty, EqC t := Ty.ind fun k ts ih => eqType_of k ts (eqTypeS_of ts ih)

end Go.Proofs.Ytephhhnoobkbhaa

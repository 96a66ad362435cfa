/- CtxValid, of the specification and of the program. -/
import Derived.Test.YtffmpjcjmffdeaaDoorQG1
import Derived.Test.YtffmpjcjmffdeaaDoorQPkA
import Derived.Test.YtffmpjcjmffdeaaDoorQPkB
namespace Go.Proofs.YtffmpjcjmffdeaaDoor
open Go.RowKit

def bdOk (x : Bd) : Bool := isNm x.nm && vld x.ty
def ctxOk (xs : List Bd) : Bool := xs.all bdOk && decide (xs.length ≤ 12)

theorem all_take_step {xs : List Bd} {k : Nat} (h : k < xs.length) : (xs.take (k + 1)).all bdOk = ((xs.take k).all bdOk && bdOk xs[k]) := by
  rw [List.take_succ_eq_append_getElem h, List.all_append]
  simp

theorem all_false {xs : List Bd} {k : Nat} (h : k < xs.length) (hb : bdOk xs[k] = false) : ctxOk xs = false := by
  have : xs.all bdOk = false := by
    rw [List.all_eq_false]
    exact ⟨xs[k], List.getElem_mem h, by simp [hb]⟩
  simp [ctxOk, this]

set_option maxHeartbeats 1000000 in
theorem specCtxValid (xs : List Bd) (s : Value) (fp : List Nat) (w : World) (hs : BsAt w xs s fp) :
    Calls Tryd.prog 55 #[s] w fun e w' => e = .returned (.bool (ctxOk xs)) ∧ Below w.heap.size w w' := by
  obtain ⟨a, cap, rfl, hc, hm, hget⟩ := hs.open
  have HG := hid hget
  clear hget hs
  go_enter Tryd.func55, Tryd.ntmps55
  go_wp2_with fail
  go_loopw [3] (fun i wr => ∃ k : Nat, k ≤ xs.length ∧ i = .int .i64 k ∧ (xs.take k).all bdOk = true ∧ Below w.heap.size w wr) (fun i _ => xs.length - (intOf i).toNat)
  case atStart => exact ⟨0, Nat.zero_le _, rfl, rfl, Below.refl _ _⟩
  case round =>
    obtain ⟨k, hk, rfl, hok, hb⟩ := hrel
    have HOK := hid hok
    clear hok
    by_cases hlk : k < xs.length
    · obtain ⟨b, o, nm, k1, n1, a1, c1, g1, rfl, hblt, hnm, hns, c0, d1, c2, hat, hf⟩ := HG.out k hlk
      replace c0 := cell_keep c0 hb
      replace d1 := cell_keep d1 hb
      replace c2 := cell_keep c2 hb
      have HB := hid (show bdOk xs[k] = (isNm nm && vld xs[k].ty) by rw [hnm]; rfl)
      have HF := hid (all_false hlk)
      have HT := hid (all_take_step hlk)
      clear hnm
      go_wp2_with fail
      refine (l2Name_any nm hns _).mono ?_
      rintro e w1 ⟨rfl, rfl⟩
      cases hn : isNm nm with
      | false =>
        have HN := hid hn
        clear hn
        go_wp2_with fail
        go_ret
        exact ⟨ret_b (by rw [HF.out]; rw [HB.out, HN.out]; rfl), hb⟩
      | true =>
        have HN := hid hn
        clear hn
        go_wp2_with fail
        refine (specTypeValid_any xs[k].ty _ _ _ (hat.below hb)).mono ?_
        rintro e w2 ⟨rfl, hb2⟩
        have hbb := below_trans hb hb2
        clear hb hb2 hat c0 d1 c2
        cases hv : vld xs[k].ty with
        | false =>
          have HV := hid hv
          clear hv
          go_wp2_with fail
          go_ret
          exact ⟨ret_b (by rw [HF.out]; rw [HB.out, HV.out]; simp), hbb⟩
        | true =>
          have HV := hid hv
          clear hv
          go_wp2_with fail
          go_roundw
          case rel => exact ⟨k + 1, by omega, by go_num, by rw [HT.out, HOK.out, HB.out, HN.out, HV.out]; rfl, hbb⟩
          case measure => simp [intOf]; omega
    · have HR := hid (show ctxOk xs = decide (xs.length ≤ 12) by
        have := HOK.out
        rw [List.take_of_length_le (by omega)] at this
        simp [ctxOk, this])
      by_cases h12 : xs.length ≤ 12
      · have h12' : (xs.length : Int) ≤ 12 := by omega
        go_wp2_with fail
        go_ret
        exact ⟨ret_b (by rw [HR.out]; simp [h12]), hb⟩
      · have h12' : ¬ (xs.length : Int) ≤ 12 := by omega
        go_wp2_with fail
        go_ret
        exact ⟨ret_b (by rw [HR.out]; simp [h12]), hb⟩

set_option maxHeartbeats 1000000 in
theorem implCtxValid (xs : List Bd) (s : Value) (fp : List Nat) (w : World) (hs : BsAt w xs s fp) :
    Calls Tryd.prog 60 #[s] w fun e w' => e = .returned (.bool (ctxOk xs)) ∧ Below w.heap.size w w' := by
  obtain ⟨a, cap, rfl, hc, hm, hget⟩ := hs.open
  have HG := hid hget
  clear hget hs
  by_cases h12 : xs.length ≤ 12
  case neg =>
    have h12' : (xs.length : Int) > 12 := by omega
    have HR := hid (show ctxOk xs = false by simp [ctxOk, h12])
    go_enter Tryd.func60, Tryd.ntmps60
    go_wp2_with fail
    go_ret
    exact ⟨ret_b HR.out.symm, Below.refl _ _⟩
  have h12' : ¬ (xs.length : Int) > 12 := by omega
  have HR := hid (show ctxOk xs = xs.all bdOk by simp [ctxOk, h12])
  go_enter Tryd.func60, Tryd.ntmps60
  go_wp2_with fail
  go_loopw [10] (fun i wr => ∃ k : Nat, k ≤ xs.length ∧ i = .int .i64 k ∧ (xs.take k).all bdOk = true ∧ Below w.heap.size w wr) (fun i _ => xs.length - (intOf i).toNat)
  case atStart => exact ⟨0, Nat.zero_le _, rfl, rfl, Below.refl _ _⟩
  case round =>
    obtain ⟨k, hk, rfl, hok, hb⟩ := hrel
    have HOK := hid hok
    clear hok
    by_cases hlk : k < xs.length
    · obtain ⟨b, o, nm, k1, n1, a1, c1, g1, rfl, hblt, hnm, hns, c0, d1, c2, hat, hf⟩ := HG.out k hlk
      replace c0 := cell_keep c0 hb
      replace d1 := cell_keep d1 hb
      replace c2 := cell_keep c2 hb
      have HB := hid (show bdOk xs[k] = (isNm nm && vld xs[k].ty) by rw [hnm]; rfl)
      have HF := hid (all_false hlk)
      have HT := hid (all_take_step hlk)
      have hal : Below wr.heap.size wr (wr.alloc (Obj.cells #[.string nm, .int .i64 k1, .slice a1 n1 c1] 76)) := (Below.refl _ _).alloc (Nat.le_refl _) _
      have hba := below_trans hb hal
      clear hnm
      go_wp2_with fail
      refine (isName_any nm hns _).mono ?_
      rintro e w1 ⟨rfl, rfl⟩
      cases hn : isNm nm with
      | false =>
        have HN := hid hn
        clear hn
        go_wp2_with fail
        go_ret
        exact ⟨ret_b (by rw [HF.out]; rw [HB.out, HN.out]; rfl), hba⟩
      | true =>
        have HN := hid hn
        clear hn
        go_wp2_with fail
        refine (implTypeValid_any xs[k].ty _ _ _ (hat.below hba)).mono ?_
        rintro e w2 ⟨rfl, hb2⟩
        have hbb := below_trans hba hb2
        clear hb hb2 hba hal hat c0 d1 c2
        cases hv : vld xs[k].ty with
        | false =>
          have HV := hid hv
          clear hv
          go_wp2_with fail
          go_ret
          exact ⟨ret_b (by rw [HF.out]; rw [HB.out, HV.out]; simp), hbb⟩
        | true =>
          have HV := hid hv
          clear hv
          go_wp2_with fail
          go_roundw
          case rel => exact ⟨k + 1, by omega, by go_num, by rw [HT.out, HOK.out, HB.out, HN.out, HV.out]; rfl, hbb⟩
          case measure => simp [intOf]; omega
    · have HR2 := hid (show ctxOk xs = true by
        have := HOK.out
        rw [List.take_of_length_le (by omega)] at this
        rw [HR.out, this])
      go_wp2_with fail
      go_ret
      exact ⟨ret_b HR2.out.symm, hb⟩
end Go.Proofs.YtffmpjcjmffdeaaDoor

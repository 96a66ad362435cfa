/- Consistency and precision as plain functions, and the specification's functions. -/
import Derived.Test.YtffmpjcjmffdeaaDoorPkA
import Derived.StillTailTactics
namespace Go.Proofs.YtffmpjcjmffdeaaDoor
open Go.RowKit

def L1cC (t : Ty) : Prop := ∀ (u : Ty) (v1 v2 : Value) (f1 f2 : List Nat) (w : World), t.At w v1 f1 → u.At w v2 f2 → wf t → wf u →
  Calls Tryd.prog 73 #[v1, v2] w fun e w' => e = .returned (.bool (cons t u)) ∧ Below w.heap.size w w'

set_option maxHeartbeats 800000 in
set_option maxRecDepth 100000 in
theorem l1Consistent_of (k : Int) (ts : List Ty) (ih : ∀ t ∈ ts, L1cC t) : L1cC (.mk k ts) := by
  intro u v1 v2 f1 f2 w h1 h2 hw1 hw2
  have HIH := hid ih
  clear ih
  obtain ⟨k', us, rfl⟩ := u.shape
  obtain ⟨s1, rfl, hs1⟩ := Ty.at_mk.1 h1
  obtain ⟨s2, rfl, hs2⟩ := Ty.at_mk.1 h2
  obtain ⟨a, cap, rfl, hc, hm, hget⟩ := hs1.openA
  have HG := hid hget
  obtain ⟨a2, cap2, rfl, hc2, hm2, hget2⟩ := hs2.openA
  have HG2 := hid hget2
  have HW1 := hid (wf_mk hw1).2
  have HW2 := hid (wf_mk hw2).2
  have HLEN := hid (show k = k' → ts.length = us.length from fun e => by subst e; exact wf_len hw1 hw2)
  clear hget hget2 hs1 hs2 h1 h2 hw1 hw2
  have hal : Below w.heap.size w ((w.alloc (Obj.cells #[.int .i64 k, .slice a ts.length cap] 32)).alloc (Obj.cells #[.int .i64 k', .slice a2 us.length cap2] 32)) := ((Below.refl _ _).alloc (Nat.le_refl _) _).alloc (by simp) _
  have HAL := hid hal
  clear hal
  by_cases hk : k = 1
  · have HT := hid (show cons (.mk k ts) (.mk k' us) = true by simp [cons, hk])
    have hk0 : (k == 1) = true := by simp [hk]
    clear hk
    go_enter Tryd.func73, Tryd.ntmps73
    go_wp2_with fail
    go_ret
    exact ⟨ret_b HT.out.symm, HAL.out⟩
  have hk0 : (k == 1) = false := by simpa using hk
  have hkn : ¬ k = 1 := hk
  clear hk
  by_cases hk : k' = 1
  · have HT := hid (show cons (.mk k ts) (.mk k' us) = true by simp [cons, hk])
    have hk0' : (k' == 1) = true := by simp [hk]
    clear hk
    go_enter Tryd.func73, Tryd.ntmps73
    go_wp2_with fail
    go_ret
    exact ⟨ret_b HT.out.symm, HAL.out⟩
  have hk0' : (k' == 1) = false := by simpa using hk
  by_cases hkk : k = k'
  · have hlen := HLEN.out hkk
    have HT := hid (show cons (.mk k ts) (.mk k' us) = consL ts us by simp [cons, *])
    subst hkk
    have hle : ts.length ≤ us.length := by omega
    clear hlen HLEN
    go_enter Tryd.func73, Tryd.ntmps73
    go_wp2_with fail
    go_loopw [5] (fun i wr => ∃ j : Nat, j ≤ ts.length ∧ i = .int .i64 j ∧ consL (ts.drop j) (us.drop j) = consL ts us ∧ Below ((w.alloc (Obj.cells #[.int .i64 k, .slice a ts.length cap] 32)).alloc (Obj.cells #[.int .i64 k, .slice a2 us.length cap2] 32)).heap.size ((w.alloc (Obj.cells #[.int .i64 k, .slice a ts.length cap] 32)).alloc (Obj.cells #[.int .i64 k, .slice a2 us.length cap2] 32)) wr) (fun i _ => ts.length - (intOf i).toNat)
    case atStart => exact ⟨0, Nat.zero_le _, rfl, rfl, Below.refl _ _⟩
    case round =>
      obtain ⟨j, hj, rfl, hdr, hb⟩ := hrel
      have HD := hid hdr
      clear hdr
      obtain ⟨x0, x1, x2, x3⟩ := box_cells2 hb
      by_cases hlk : j < ts.length
      · have hlk2 : j < us.length := by omega
        obtain ⟨b, o, k1, n1, a1, cap1, g1, rfl, hblt, c0, c1, hat, hf⟩ := HG.out j hlk
        obtain ⟨b2, o2, k3, n3, a3, cap3, g2, rfl, hblt2, e0, e1, hat2, hf2⟩ := HG2.out j hlk2
        have hbw := alloc2 hb
        have d0 := (hbw.cell (p := ⟨b, o + j * 2, none⟩) hblt).trans c0
        have d1 := (hbw.cell (p := ⟨b, o + j * 2 + 1, none⟩) hblt).trans c1
        have d2 := (hbw.cell (p := ⟨b2, o2 + j * 2, none⟩) hblt2).trans e0
        have d3 := (hbw.cell (p := ⟨b2, o2 + j * 2 + 1, none⟩) hblt2).trans e1
        clear c0 c1 e0 e1
        have HST := hid (consL_step hlk hlk2)
        have HWa := hid (HW1.out _ (List.getElem_mem hlk))
        have HWb := hid (HW2.out _ (List.getElem_mem hlk2))
        go_wp2_with fail
        go_still_tail 10, (by kernel_rfl)
        go_wp2_with fail
        refine (HIH.out _ (List.getElem_mem hlk) _ _ _ _ _ _ (hat.below ?_) (hat2.below ?_) HWa.out HWb.out).mono ?_
        · exact hbw.drew
        · exact hbw.drew
        rintro e w1 ⟨rfl, hb1⟩
        have hbb := hb.trans ((below_trans (below_drew wr) hb1).mono hb.size)
        clear hb hb1 hat hat2 d0 d1 d2 d3 hbw
        generalize cons ts[j] us[j] = r at *
        cases r
        · go_wp2_with fail
          go_ret
          exact ⟨ret_b (by rw [HT.out, ← HD.out, HST.out, Bool.false_and]), alloc2 hbb⟩
        · go_wp2_with fail
          go_roundw
          case rel => exact ⟨j + 1, by omega, by go_num, by rw [← HD.out, HST.out, Bool.true_and], hbb⟩
          case measure => simp [intOf]; omega
      · go_wp2_with fail
        go_ret
        exact ⟨ret_b (by rw [HT.out, ← HD.out, List.drop_of_length_le (by omega)]; simp only [consL]), alloc2 hb⟩
  · have HT := hid (show cons (.mk k ts) (.mk k' us) = false by simp [cons, *])
    have hk1 : (k == k') = false := by simpa using hkk
    have hk2 : (k != k') = true := by simpa using hkk
    clear hkk
    go_enter Tryd.func73, Tryd.ntmps73
    go_wp2_with fail
    go_ret
    exact ⟨ret_b HT.out.symm, HAL.out⟩

theorem l1Consistent_any : ∀ t : Ty, L1cC t := Ty.ind l1Consistent_of

end Go.Proofs.YtffmpjcjmffdeaaDoor

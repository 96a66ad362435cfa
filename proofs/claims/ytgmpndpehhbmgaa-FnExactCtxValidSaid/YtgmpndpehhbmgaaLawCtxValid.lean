/- The law on CtxValid: it returns true and writes nothing that was there. -/
import Derived.Test.YtgmpndpehhbmgaaCtx
import Derived.Deep.RegionHeld3
namespace Go.Proofs.Ytgmpndpehhbmgaa
open Go.RowKit

set_option maxHeartbeats 1000000 in
theorem lawCtxValid (xs : List Bd) (s : Value) (fp : List Nat) (w : World) (hs : BsAt w xs s fp) :
    Calls Try.prog 4 #[s] w fun e w' => e = .returned (.bool true) ∧ Below w.heap.size w w' := by
  obtain ⟨a, cap, rfl⟩ := hs.shape
  by_cases hc : xs.length + szB xs ≤ 1048576
  case neg =>
    have HS := hid (show left0 (xs.length + szB xs) 1048576 = -1 by unfold left0; rw [if_neg (by omega)])
    go_enter Try.func4, Try.ntmps4
    go_wp2_with fail
    refine (szBindS_any xs _ fp 1048576 _ (by omega) (by omega) hs).mono ?_
    rw [HS.out]
    rintro e w1 ⟨rfl, hb1⟩
    go_wp2_with fail
    go_ret
    exact ⟨rfl, hb1⟩
  have hpos : (0 : Int) ≤ 1048576 - ((xs.length + szB xs : Nat) : Int) := by omega
  have HS := hid (show left0 (xs.length + szB xs) 1048576 = 1048576 - ((xs.length + szB xs : Nat) : Int) by unfold left0; rw [if_pos (by omega)])
  have HC := hid hc
  generalize ((xs.length + szB xs : Nat) : Int) = NN at *
  clear hc
  go_enter Try.func4, Try.ntmps4
  go_wp2_with fail
  refine (szBindS_any xs _ fp 1048576 _ (by omega) (by omega) hs).mono ?_
  rw [HS.out]
  rintro e w1 ⟨rfl, b1⟩
  go_wp2_with fail
  refine (toBindS_any xs _ fp _ (hs.below b1) HC.out).mono ?_
  rintro e w2 ⟨s2, f2, rfl, hs2, hf2, hb2⟩
  have b2 := below_trans b1 hb2
  go_wp2_with fail
  refine (specCtxValid xs _ _ _ hs2).mono ?_
  rintro e w3 ⟨rfl, hb3⟩
  have b3 := below_trans b2 hb3
  clear hb2 hb3 hs2 hf2
  go_wp2_with fail
  refine (toBindS_any xs _ fp _ (hs.below b3) HC.out).mono ?_
  rintro e w4 ⟨s4, f4, rfl, hs4, hf4, hb4⟩
  have b4 := below_trans b3 hb4
  go_wp2_with fail
  refine (implCtxValid xs _ _ _ hs4).mono ?_
  rintro e w5 ⟨rfl, hb5⟩
  have b5 := below_trans b4 hb5
  replace hs4 := hs4.below hb5
  generalize ctxOk xs = r at *
  clear hb4 hb5 hf4
  go_wp2_with fail
  refine (toBindS_any xs _ fp _ (hs.below b5) HC.out).mono ?_
  rintro e w6 ⟨s6, f6, rfl, hs6, hf6, hb6⟩
  have b6 := below_trans b5 hb6
  replace hs4 := hs4.below hb6
  clear hf6 hb6
  go_wp2_with fail
  refine (eqBindS_any xs _ _ _ _ _ hs4 hs6).mono ?_
  rintro e w7 ⟨rfl, hb7⟩
  go_wp2_with fail
  go_ret
  exact ⟨rfl, below_trans b6 hb7⟩
end Go.Proofs.Ytgmpndpehhbmgaa

/- The program's CastLabels: sorted, compacted. -/
import Derived.Test.YtgiimijooabioaaDoorLbI
import Derived.Test.YtgiimijooabioaaDoorLbA
import Derived.Test.YtgiimijooabioaaDoorSrd
namespace Go.Proofs.YtgiimijooabioaaDoor
open Go.RowKit

theorem lbLst_eq (t : Tm) : Lib.compact ((ecN lbStep [] t).mergeSort fun x y => decide (x ≤ y)) = ecN srStep [] t := by
  rw [compact_sort, ← ecN_srt t []]
  rfl

set_option maxRecDepth 100000 in
set_option maxHeartbeats 2000000 in
theorem implCastLabels (t : Tm) (v : Value) (fp : List Nat) (w : World) (hsz : t.sz ≤ 1048576) (hF : Forms w) (hat : t.At w v fp) :
    Calls Tryd.prog 26 #[v] w (MadeI w (lbLst t)) := by
  have hlt := hat.lt
  have HLT := hid hlt
  clear hlt
  have hat0 := hat
  obtain ⟨k, nm, num, k1, n1, a1, c1, k2, n2, a2, c2, lb, n3, a3, c3, rfl⟩ := hat.agg
  have hb0 : Below w.heap.size w (w.alloc (Obj.cells #[.int .i64 k, .string nm, .int .i64 num, .int .i64 k1, .slice a1 n1 c1, .int .i64 k2, .slice a2 n2 c2, .int .i64 lb, .slice a3 n3 c3] 35)) := (Below.refl _ _).alloc (Nat.le_refl _) _
  have HV := hid (implCastValid t _ _ _ (hF.below hb0) (hat0.below hb0))
  have HT := hid (show lbLst t = if vldC t then ecN srStep [] t else [] from rfl)
  have HLN := hid (show (ecN lbStep [] t).length ≤ 2 * (t.sz + 1) by have := ecN_len lbStep List.length lbStep_len t []; simpa using this)
  have HEQ := hid (lbLst_eq t)
  have HSH := hid (show vldC t = true → shpC 40 t = true from fun h => by unfold vldC at h; simp only [Bool.and_eq_true] at h; exact h.1)
  generalize lbLst t = L at *
  generalize vldC t = r at *
  go_enter Tryd.func26, Tryd.ntmps26
  go_wp2_with fail
  refine HV.out.mono ?_
  rintro e w1 ⟨rfl, hb1⟩
  obtain ⟨z0, z1, z2, z3, z4, z5, z6, z7, z8⟩ := box9 hb1
  have b1 := below_trans hb0 hb1
  have hat2 := hat.below b1
  have hal : Below w1.heap.size w1 (w1.alloc (Obj.cells #[.slice none 0 0] 39)) := (Below.refl _ _).alloc (Nat.le_refl _) _
  cases r
  · have HFIN := hid (show MadeI w L (.returned (.slice none 0 0)) w1 from ⟨_, rfl, by rw [HT.out]; exact GrowI.zero _ _, b1⟩)
    go_wp2_with fail
    go_ret
    exact HFIN.out
  · have HSHP := hid (HSH.out rfl)
    replace z0 := cell_keep z0 hal
    replace z1 := cell_keep z1 hal
    replace z2 := cell_keep z2 hal
    replace z3 := cell_keep z3 hal
    replace z4 := cell_keep z4 hal
    replace z5 := cell_keep z5 hal
    replace z6 := cell_keep z6 hal
    replace z7 := cell_keep z7 hal
    replace z8 := cell_keep z8 hal
    have hs1 : (w1.alloc (Obj.cells #[.slice none 0 0] 39)).heap.size = w1.heap.size + 1 := by simp
    have HL := hid (show LabAt w1.heap.size (w1.heap.size + 1) [] (.slice none 0 0) (w1.alloc (Obj.cells #[.slice none 0 0] 39)) from ⟨alloc_new _ _, GrowI.zero _ _, Nat.lt_succ_self _⟩)
    have HAT := hid (hat2.below hal)
    have HLT1 := hid (show ∀ x ∈ fp, x < w1.heap.size from fun x hx => Nat.lt_of_lt_of_le (HLT.out x hx) b1.size)
    have hsz2 : ([] : List Int).length + 2 * (t.sz + 1) ≤ 4194300 := by simp only [List.length_nil]; omega
    have HS2 := hid hsz2
    have HB1 := hid b1
    have HAL := hid hal
    clear hat2 hsz2 b1
    go_wp2_with fail
    refine (eachCast_any 63 #[.pointer (some ⟨w1.heap.size, 0, none⟩)] w1.heap.size (w1.heap.size + 1) (LabAt w1.heap.size (w1.heap.size + 1)) List.length lbStep callOk_lb (Nat.lt_succ_self _) lbStep_len
      (fun a v w w' h hb => h.below hb) (fun a v w h => h.2.1.own_ge) (visitLb w1.heap.size (w1.heap.size + 1))
      t [] (.slice none 0 0) _ fp 40 _ HL.out HAT.out HLT1.out HSHP.out (Nat.le_of_eq hs1.symm) hsz HS2.out).mono ?_
    rintro e w3 ⟨⟨r3, rfl⟩, v3, ⟨hO3, hG3, hMB⟩, hr3⟩
    obtain ⟨a3', c3', rfl⟩ := hG3.shape
    have hc3 : w3.cell? ⟨w1.heap.size, 0, none⟩ = some (.slice a3' (ecN lbStep [] t).length c3') := by rw [cell_of_block hO3]; rfl
    have HB3 := hid (hr3.below hMB (Nat.le_of_eq hs1.symm) (fun b hb => by cases hb))
    have HS3 := hid hr3.1.2.2.2
    have HG3 := hid hG3
    have HO3 := hid hO3
    clear hG3 hO3 hr3 z0 z1 z2 z3 z4 z5 z6 z7 z8
    go_wp2_with fail
    refine (sortedLabels_any (w1.heap.size + 1) _ _ _ HG3.out (by have := HS3.out; omega) (by have := HLN.out; omega)).mono ?_
    rintro e w5 ⟨v5, rfl, hG5, hr5⟩
    have HB5 := hid (show Below (w1.heap.size + 1) w3 w5 from ⟨hr5.1.1, hr5.1.2.1, hr5.1.2.2.1, hr5.1.2.2.2, fun k hk => by
      exact hr5.2.1 k (by have := HS3.out; omega) (by omega) (fun e => by have := (HG3.out.own_ge _ e.symm).1; omega)⟩)
    have HFIN := hid (show MadeI w L (.returned v5) w5 from ⟨v5, rfl, by rw [HT.out, if_pos trivial, ← HEQ.out]; exact hG5.mono (by have := HB1.out.size; omega), HB1.out.trans ((HAL.out.trans (HB3.out.trans (HB5.out.mono (Nat.le_succ _)))).mono HB1.out.size)⟩)
    clear hG5 hr5
    go_wp2_with fail
    go_ret
    exact HFIN.out
end Go.Proofs.YtgiimijooabioaaDoor

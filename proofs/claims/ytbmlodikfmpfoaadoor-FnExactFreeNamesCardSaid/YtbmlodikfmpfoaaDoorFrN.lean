/- The program's FreeNames. -/
import Derived.Test.YtbmlodikfmpfoaaDoorFrI
import Derived.Test.YtbmlodikfmpfoaaDoorFrT
namespace Go.Proofs.YtbmlodikfmpfoaaDoor
open Go.RowKit

set_option maxRecDepth 100000 in
set_option maxHeartbeats 4000000 in
theorem implFreeNames (t : Tm) (v : Value) (fp : List Nat) (w : World) (hsz : t.sz ≤ 1048576) (hF : Forms w) (hat : t.At w v fp) :
    Calls Tryd.prog 48 #[v] w fun e w' => e = .returned (.string (freeS t)) ∧ Below w.heap.size w w' := by
  have hlt := hat.lt
  obtain ⟨k, nm, num, k1, n1, a1, c1, k2, n2, a2, c2, lb, n3, a3, c3, rfl⟩ := hat.agg
  have hb0 : Below w.heap.size w (w.alloc (Obj.cells #[.int .i64 k, .string nm, .int .i64 num, .int .i64 k1, .slice a1 n1 c1, .int .i64 k2, .slice a2 n2 c2, .int .i64 lb, .slice a3 n3 c3] 34)) := (Below.refl _ _).alloc (Nat.le_refl _) _
  have hat0 := hat.below hb0
  have HVD := hid (implTermValid t _ _ _ (hF.below hb0) hat0)
  have HT := hid (show freeS t = if vldM t then strN (frN 0 0 t) else ⟨#[]⟩ from rfl)
  have HSH := hid (fun h : vldM t = true => vldM_shp h)
  have HLT := hid hlt
  have HF := hid hF
  clear hlt hF
  generalize vldM t = r at *
  go_enter Tryd.func48, Tryd.ntmps48
  go_wp2_with fail
  refine HVD.out.mono ?_
  rintro e w1 ⟨rfl, hb1⟩
  obtain ⟨z0, z1, z2, z3, z4, z5, z6, z7, z8⟩ := box9 hb1
  have b1 := below_trans hb0 hb1
  have hat2 := hat0.below hb1
  have hal : Below w1.heap.size w1 (w1.alloc (Obj.cells #[.int .u32 0] 104)) := (Below.refl _ _).alloc (Nat.le_refl _) _
  clear hat0 hat
  cases r
  · go_wp2_with fail
    go_ret
    exact ⟨ret_s (by rw [HT.out]; rfl), b1⟩
  · have HSHP := hid (HSH.out rfl)
    replace z0 := cell_keep z0 hal
    replace z1 := cell_keep z1 hal
    replace z2 := cell_keep z2 hal
    replace z3 := cell_keep z3 hal
    replace z4 := cell_keep z4 hal
    replace z5 := cell_keep z5 hal
    replace z6 := cell_keep z6 hal
    replace z7 := cell_keep z7 hal
    replace z8 := cell_keep z8 hal
    have hs1 : (w1.alloc (Obj.cells #[.int .u32 0] 104)).heap.size = w1.heap.size + 1 := by simp
    have HL := hid (show StM w1.heap.size 0 (w1.alloc (Obj.cells #[.int .u32 0] 104)) from alloc_new _ _)
    have HLT1 := hid (show ∀ x ∈ fp, x < w1.heap.size from fun x hx => Nat.lt_of_lt_of_le (HLT.out x hx) b1.size)
    have HC := hid (eachFree_any w1.heap.size t 0 0 12 _ fp (w1.alloc (Obj.cells #[.int .u32 0] 104)) (by omega) (by omega) HL.out HSHP.out (hat2.below hal) HLT1.out hsz)
    have HB1 := hid b1
    have HAL := hid hal
    have HS1 := hid hs1
    have HLTN := hid (frN_lt t 12 0 0 HSHP.out (by omega) (by omega))
    clear hat2 b1 hal hs1
    go_wp2_with fail
    refine HC.out.mono ?_
    rintro e w3 ⟨⟨r3, rfl⟩, hL3, hr3⟩
    have hc3 : w3.cell? ⟨w1.heap.size, 0, none⟩ = some (.int .u32 (frN 0 0 t : Int)) := by rw [cell_of_block hL3]; rfl
    have HB3 := hid (hr3.below (by have := HS1.out; omega))
    have HTX := hid (setText_any (frN 0 0 t) HLTN.out w3)
    clear hL3 hr3 z0 z1 z2 z3 z4 z5 z6 z7 z8
    go_wp2_with fail
    refine HTX.out.mono ?_
    rintro e w4 ⟨rfl, hb4⟩
    have HB4 := hid (hb4.mono (by have := HB3.out.size; have := HS1.out; omega : w1.heap.size ≤ w3.heap.size))
    clear hb4 hc3
    go_wp2_with fail
    go_ret
    exact ⟨ret_s (by rw [HT.out]; rfl), HB1.out.trans ((HAL.out.trans (HB3.out.trans HB4.out)).mono HB1.out.size)⟩
end Go.Proofs.YtbmlodikfmpfoaaDoor

/- The program's TermTypes. -/
import Derived.Test.YtgmpndpehhbmgaaDoorTysJ
namespace Go.Proofs.YtgmpndpehhbmgaaDoor
open Go.RowKit

theorem grow_nil (B : Nat) (w : World) : GrowT B [] (.slice none 0 0) [] w := GrowT.zero B w

set_option maxRecDepth 100000 in
set_option maxHeartbeats 2000000 in
theorem implTermTypes (t : Tm) (v : Value) (fp : List Nat) (w : World) (hsz : t.sz ≤ 1048576) (hF : Forms w) (hat : t.At w v fp) :
    Calls Tryd.prog 66 #[v] w (MadeS w (tyLst t)) := by
  have hlt := hat.lt
  have HLT := hid hlt
  clear hlt
  have hat0 := hat
  obtain ⟨k, nm, num, k1, n1, a1, c1, k2, n2, a2, c2, lb, n3, a3, c3, rfl⟩ := hat.agg
  have hb0 : Below w.heap.size w (w.alloc (Obj.cells #[.int .i64 k, .string nm, .int .i64 num, .int .i64 k1, .slice a1 n1 c1, .int .i64 k2, .slice a2 n2 c2, .int .i64 lb, .slice a3 n3 c3] 40)) := (Below.refl _ _).alloc (Nat.le_refl _) _
  have HV := hid (implTermValid t _ _ _ (hF.below hb0) (hat0.below hb0))
  have HT := hid (show tyLst t = if vldM t then tysOf t else [] from rfl)
  have HLN := hid (tysOf_len t)
  have HSH := hid (show vldM t = true → shpM 12 t = true from fun h => by unfold vldM at h; simp only [Bool.and_eq_true] at h; exact h.1)
  have hM0 : 0 < w.heap.size := World.block_lt_of_cell? _ _ (hF 0 (by omega))
  generalize tyLst t = L at *
  generalize vldM t = r at *
  go_enter Tryd.func66, Tryd.ntmps66
  go_wp2_with fail
  refine HV.out.mono ?_
  rintro e w1 ⟨rfl, hb1⟩
  obtain ⟨z0, z1, z2, z3, z4, z5, z6, z7, z8⟩ := box9 hb1
  have b1 := below_trans hb0 hb1
  have hat2 := hat.below b1
  have hal : Below w1.heap.size w1 (w1.alloc (Obj.cells #[.slice none 0 0] 31)) := (Below.refl _ _).alloc (Nat.le_refl _) _
  cases r
  · go_wp2_with fail
    go_ret
    exact ⟨_, [], rfl, .inl ⟨by rw [HT.out]; rfl, rfl, _, _, rfl⟩, Fresh.nil _ _, b1⟩
  · have HSHP := hid (HSH.out rfl)
    replace z0 := cell_keep z0 hal
    replace z1 := cell_keep z1 hal
    replace z2 := cell_keep z2 hal
    replace z3 := cell_keep z3 hal
    replace z4 := cell_keep z4 hal
    replace z5 := cell_keep z5 hal
    replace z6 := cell_keep z6 hal
    replace z7 := cell_keep z7 hal
    replace z8 := cell_keep z8 hal
    have hs1 : (w1.alloc (Obj.cells #[.slice none 0 0] 31)).heap.size = w1.heap.size + 1 := by simp
    have HL := hid (show ListAt w1.heap.size (w1.heap.size + 1) [] (.slice none 0 0) (w1.alloc (Obj.cells #[.slice none 0 0] 31)) from ⟨[], alloc_new _ _, GrowT.zero _ _, Nat.lt_succ_self _⟩)
    have HFM := hid ((hF.below b1).below hal)
    have HM0 := hid (show 0 < w1.heap.size from Nat.lt_of_lt_of_le hM0 b1.size)
    have HAT := hid (hat2.below hal)
    have HLT1 := hid (show ∀ x ∈ fp, x < w1.heap.size from fun x hx => Nat.lt_of_lt_of_le (HLT.out x hx) b1.size)
    have hsz2 : ([] : List Ty).length + (tysOf t).length ≤ 4194303 := by have := HLN.out; simp only [List.length_nil]; omega
    clear hat2 hM0
    go_wp2_with fail
    refine (eachType_any t w1.heap.size (w1.heap.size + 1) [] (.slice none 0 0) _ fp 12 _ HL.out HFM.out HM0.out HAT.out HLT1.out HSHP.out (Nat.le_of_eq hs1.symm) hsz hsz2).mono ?_
    rintro e w3 ⟨⟨r3, rfl⟩, v', ⟨g', hO, hG, hMB⟩, hr⟩
    obtain ⟨a', capv', hshape⟩ := hG.shape
    obtain ⟨fp', hs', hf'⟩ := hG.done (by unfold maxLen; have := HLN.out; simp only [List.nil_append]; omega)
    have hc : w3.cell? ⟨w1.heap.size, 0, none⟩ = some v' := by rw [cell_of_block hO]; rfl
    have hbl : Below w1.heap.size (w1.alloc (Obj.cells #[.slice none 0 0] 31)) w3 := hr.below hMB (Nat.le_of_eq hs1.symm) (fun b hb => by cases hb)
    have HFIN := hid (show MadeS w L (.returned v') w3 from ⟨v', fp', rfl, by rw [HT.out, if_pos trivial]; simpa using hs', hf'.mono (by have := b1.size; omega), b1.trans ((hal.trans (hbl.mono (Nat.le_refl _))).mono b1.size)⟩)
    clear hs' hf' hG hr hbl hO hMB hshape
    go_wp2_with fail
    go_ret
    exact HFIN.out
end Go.Proofs.YtgmpndpehhbmgaaDoor

/- The specification's TermTypes. -/
import Derived.Test.YtffmpjcjmffdeaaDoorVTysM
namespace Go.Proofs.YtffmpjcjmffdeaaDoor
open Go.RowKit

/-- The document's TermTypes. -/
def tyLst (t : Tm) : List Ty := if vldM t then tysOf t else []

set_option maxRecDepth 100000 in
set_option maxHeartbeats 2000000 in
theorem specTermTypes (t : Tm) (v : Value) (fp : List Nat) (w : World) (hsz : t.sz ≤ 1048576) (hat : t.At w v fp) :
    Calls Tryd.prog 72 #[v] w (MadeS w (tyLst t)) := by
  have hlt := hat.lt
  have HLT := hid hlt
  clear hlt
  have hat0 := hat
  obtain ⟨k, nm, num, k1, n1, a1, c1, k2, n2, a2, c2, lb, n3, a3, c3, rfl⟩ := hat.agg
  have hb0 : Below w.heap.size w (w.alloc (Obj.cells #[.int .i64 k, .string nm, .int .i64 num, .int .i64 k1, .slice a1 n1 c1, .int .i64 k2, .slice a2 n2 c2, .int .i64 lb, .slice a3 n3 c3] 35)) := (Below.refl _ _).alloc (Nat.le_refl _) _
  have HV := hid (specTermValid t _ _ _ hsz (hat0.below hb0))
  have HT := hid (show tyLst t = if vldM t then tysOf t else [] from rfl)
  have HLN := hid (tysOf_len t)
  generalize tyLst t = L at *
  generalize vldM t = r at *
  go_enter Tryd.func72, Tryd.ntmps72
  go_wp2_with fail
  refine HV.out.mono ?_
  rintro e w1 ⟨rfl, hb1⟩
  obtain ⟨z0, z1, z2, z3, z4, z5, z6, z7, z8⟩ := box9 hb1
  have b1 := below_trans hb0 hb1
  have hat2 := hat.below b1
  have hal : Below w1.heap.size w1 (w1.alloc (Obj.cells #[] 32)) := (Below.refl _ _).alloc (Nat.le_refl _) _
  cases r
  · go_wp2_with fail
    go_ret
    exact ⟨_, [], rfl, .inl ⟨by rw [HT.out]; rfl, rfl, _, _, rfl⟩, Fresh.nil _ _, below_trans b1 hal⟩
  · replace z0 := cell_keep z0 hal
    replace z1 := cell_keep z1 hal
    replace z2 := cell_keep z2 hal
    replace z3 := cell_keep z3 hal
    replace z4 := cell_keep z4 hal
    replace z5 := cell_keep z5 hal
    replace z6 := cell_keep z6 hal
    replace z7 := cell_keep z7 hal
    replace z8 := cell_keep z8 hal
    have b2 := below_trans b1 hal
    have hG0 : GrowT w1.heap.size [] (.slice (some ⟨w1.heap.size, 0, none⟩) 0 0) [] (w1.alloc (Obj.cells #[] 32)) := by
      refine ⟨[], ⟨rfl, .inr ⟨w1.heap.size, 0, #[], rfl, Nat.le_refl _, alloc_new _ _, Nat.le_refl _, Nat.zero_le _, rfl, rfl⟩⟩, ⟨rfl, rfl⟩, Fresh.nil _ _, by simp⟩
    have HG0 := hid hG0
    have HAT := hid (hat2.below hal)
    have hlt1 : ∀ x ∈ fp, x < w1.heap.size := fun x hx => Nat.lt_of_lt_of_le (HLT.out x hx) b1.size
    have HLT1 := hid hlt1
    have hsz2 : ([] : List Ty).length + (tysOf t).length ≤ 4194304 := by have := HLN.out; simp only [List.length_nil]; omega
    clear hlt1 hG0 hat2
    go_wp2_with fail
    refine (l2Types_any t w1.heap.size [] _ [] _ fp _ HG0.out HAT.out HLT1.out hal.size hsz hsz2).mono ?_
    rintro e w3 ⟨v', g', rfl, hG, hgr⟩
    obtain ⟨fp', hs', hf'⟩ := hG.done (by unfold maxLen; have := HLN.out; simp only [List.nil_append]; omega)
    have hbl : Below w1.heap.size (w1.alloc (Obj.cells #[] 32)) w3 := hgr.below hal.size (fun b hb => by cases hb; exact Nat.le_refl _)
    have HFIN := hid (show MadeS w L (.returned v') w3 from ⟨v', fp', rfl, by rw [HT.out, if_pos trivial]; simpa using hs', hf'.mono b1.size, b2.trans (hbl.mono b1.size)⟩)
    clear hs' hf' hG hgr hbl
    go_wp2_with fail
    go_ret
    exact HFIN.out
end Go.Proofs.YtffmpjcjmffdeaaDoor

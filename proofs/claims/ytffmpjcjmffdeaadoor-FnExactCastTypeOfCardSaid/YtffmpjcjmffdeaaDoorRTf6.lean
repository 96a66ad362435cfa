/- The specification's CastTypeOf. -/
import Derived.Test.YtffmpjcjmffdeaaDoorRTf5
import Derived.Test.YtffmpjcjmffdeaaDoorRG34
import Derived.Test.YtffmpjcjmffdeaaDoorRTyJ
namespace Go.Proofs.YtffmpjcjmffdeaaDoor
open Go.RowKit

set_option maxRecDepth 100000 in
set_option maxHeartbeats 4000000 in
theorem specCastTypeOf (t : Tm) (v : Value) (fe : List Nat) (w : World) (hsz : t.sz ≤ 1048576) (hat : t.At w v fe) :
    Calls Tryd.prog 27 #[v] w (MadeTB w ((tyXO t).getD (.mk 0 [])) (tyXO t).isSome) := by
  obtain ⟨e0, e1, e2, e3, e4, e5, e6, e7, e8, e9, e10, e11, e12, e13, e14, rfl⟩ := hat.agg
  have hb0 : Below w.heap.size w ((w.alloc (Obj.cells #[.int .i64 e0, .string e1, .int .i64 e2, .int .i64 e3, .slice e5 e4 e6, .int .i64 e7, .slice e9 e8 e10, .int .i64 e11, .slice e13 e12 e14] 35)).alloc (Obj.cells #[.int .i64 0, .slice none 0 0] 32)) := ((Below.refl _ _).alloc (Nat.le_refl _) _).alloc (by simp) _
  have HB0 := hid hb0
  have HOUT := hid (fun (W : World) (h : Below (((w.alloc (Obj.cells #[.int .i64 e0, .string e1, .int .i64 e2, .int .i64 e3, .slice e5 e4 e6, .int .i64 e7, .slice e9 e8 e10, .int .i64 e11, .slice e13 e12 e14] 35)).alloc (Obj.cells #[.int .i64 0, .slice none 0 0] 32))).heap.size ((w.alloc (Obj.cells #[.int .i64 e0, .string e1, .int .i64 e2, .int .i64 e3, .slice e5 e4 e6, .int .i64 e7, .slice e9 e8 e10, .int .i64 e11, .slice e13 e12 e14] 35)).alloc (Obj.cells #[.int .i64 0, .slice none 0 0] 32)) W) => two_out h)
  have HTV := hid (specCastValid t _ fe ((w.alloc (Obj.cells #[.int .i64 e0, .string e1, .int .i64 e2, .int .i64 e3, .slice e5 e4 e6, .int .i64 e7, .slice e9 e8 e10, .int .i64 e11, .slice e13 e12 e14] 35)).alloc (Obj.cells #[.int .i64 0, .slice none 0 0] 32)) hsz (hat.below hb0))
  have HTY := hid (fun (h2 : vldC t = true) (W : World) (h : Below (((w.alloc (Obj.cells #[.int .i64 e0, .string e1, .int .i64 e2, .int .i64 e3, .slice e5 e4 e6, .int .i64 e7, .slice e9 e8 e10, .int .i64 e11, .slice e13 e12 e14] 35)).alloc (Obj.cells #[.int .i64 0, .slice none 0 0] 32))).heap.size ((w.alloc (Obj.cells #[.int .i64 e0, .string e1, .int .i64 e2, .int .i64 e3, .slice e5 e4 e6, .int .i64 e7, .slice e9 e8 e10, .int .i64 e11, .slice e13 e12 e14] 35)).alloc (Obj.cells #[.int .i64 0, .slice none 0 0] 32)) W) => tyD 40 t [] (.slice none 0 0) _ [] fe W (shp_vldC h2) (.inl ⟨rfl, rfl, _, _, rfl⟩) (hat.below (below_trans hb0 h)) (fun x hx => by cases hx) (by simp))
  have HZ := hid (fun (W : World) (h : Below (((w.alloc (Obj.cells #[.int .i64 e0, .string e1, .int .i64 e2, .int .i64 e3, .slice e5 e4 e6, .int .i64 e7, .slice e9 e8 e10, .int .i64 e11, .slice e13 e12 e14] 35)).alloc (Obj.cells #[.int .i64 0, .slice none 0 0] 32))).heap.size ((w.alloc (Obj.cells #[.int .i64 e0, .string e1, .int .i64 e2, .int .i64 e3, .slice e5 e4 e6, .int .i64 e7, .slice e9 e8 e10, .int .i64 e11, .slice e13 e12 e14] 35)).alloc (Obj.cells #[.int .i64 0, .slice none 0 0] 32)) W) => (show MadeTB w (.mk 0 []) false (.returned (.tuple #[.agg #[.int .i64 0, .slice none 0 0], .bool false])) (put W (w.heap.size + 1) 0 [.int .i64 0, .slice none 0 0]) from
    ⟨_, [], rfl, no_ty _, Fresh.nil _ _, below_put (below_trans hb0 h) (by omega)⟩))
  obtain ⟨z0, z1, z2, z3, z4, z5, z6, z7, z8⟩ := cells9 (two_out (Below.refl (((w.alloc (Obj.cells #[.int .i64 e0, .string e1, .int .i64 e2, .int .i64 e3, .slice e5 e4 e6, .int .i64 e7, .slice e9 e8 e10, .int .i64 e11, .slice e13 e12 e14] 35)).alloc (Obj.cells #[.int .i64 0, .slice none 0 0] 32))).heap.size ((w.alloc (Obj.cells #[.int .i64 e0, .string e1, .int .i64 e2, .int .i64 e3, .slice e5 e4 e6, .int .i64 e7, .slice e9 e8 e10, .int .i64 e11, .slice e13 e12 e14] 35)).alloc (Obj.cells #[.int .i64 0, .slice none 0 0] 32)))).1
  have HRES2 := hid (show vldC t = false → tyXO t = none from fun h => by simp [tyXO, h])
  have HRES3 := hid (show vldC t = true → tyXO t = tyX [] t from fun h => by simp [tyXO, h])
  clear hat hb0
  go_enter Tryd.func27, Tryd.ntmps27
  go_wp2_with fail
  refine HTV.out.mono ?_
  rintro e w2 ⟨rfl, hb12⟩
  have hb2 := hb12
  cases htv : vldC t with
  | false =>
    have FIN := hid (HZ.out w2 hb12)
    simp only [put, Nat.zero_add] at FIN
    have q := (HOUT.out w2 hb12).2
    have r0 : w2.cell? ⟨w.heap.size + 1, 0, none⟩ = some (.int .i64 0) := by rw [cell_of_block q]; rfl
    have r1 : w2.cell? ⟨w.heap.size + 1, 1, none⟩ = some (.slice none 0 0) := by rw [cell_of_block q]; rfl
    have rz := fun o => frozen_of_block (o := o) q
    have rl := lt_of_block q
    have HN := hid (HRES2.out htv)
    clear q hb2 hb12 HZ HOUT HTV HTY HRES2 HRES3 htv z0 z1 z2 z3 z4 z5 z6 z7 z8
    go_wp2_with fail
    exact bodyPost_ret (v := .tuple #[.agg #[.int .i64 0, .slice none 0 0], .bool false]) (by simp [results, Tryd.results27, go_sem, r0, r1]) rfl (by rw [HN.out]; exact FIN.out)
  | true =>
  have HN := hid (HRES3.out htv)
  have HT := hid (HTY.out htv w2 hb12)
  simp only [List.reverse_nil] at HT
  have HBW := hid hb12
  replace z0 := cell_keep z0 hb2
  replace z1 := cell_keep z1 hb2
  replace z2 := cell_keep z2 hb2
  replace z3 := cell_keep z3 hb2
  replace z4 := cell_keep z4 hb2
  replace z5 := cell_keep z5 hb2
  replace z6 := cell_keep z6 hb2
  replace z7 := cell_keep z7 hb2
  replace z8 := cell_keep z8 hb2
  generalize hTO : tyX [] t = TO at *
  clear hb2 hb12 htv HTV HTY HRES2 HRES3 hTO
  go_wp2_with fail
  refine HT.out.mono ?_
  rintro e w6 ⟨T6, hT6, v6, f6, rfl, h6, hf6, hb6⟩
  obtain ⟨k6, n6, a6, c6, rfl⟩ := h6.agg
  clear z0 z1 z2 z3 z4 z5 z6 z7 z8 HT
  have hb6' := below_trans HBW.out hb6
  have HB6 := hid hb6'
  have HH := hid (And.intro h6 hf6)
  clear h6 hf6 hb6 hb6'
  cases TO with
  | none =>
    go_wp2_with fail
    refine (l3Sure_any k6 n6 a6 c6 false _).mono ?_
    rintro e w7 ⟨rfl, hb7⟩
    have hb7' := below_trans HB6.out hb7
    have FIN := hid (HZ.out w7 hb7')
    simp only [put, Nat.zero_add] at FIN
    have q := (HOUT.out w7 hb7').2
    have r0 : w7.cell? ⟨w.heap.size + 1, 0, none⟩ = some (.int .i64 0) := by rw [cell_of_block q]; rfl
    have r1 : w7.cell? ⟨w.heap.size + 1, 1, none⟩ = some (.slice none 0 0) := by rw [cell_of_block q]; rfl
    have rz := fun o => frozen_of_block (o := o) q
    have rl := lt_of_block q
    clear q hb7 hb7' HZ HOUT HBW HB6 HH
    simp only [sureV, Bool.false_eq_true, if_false]
    go_wp2_with fail
    exact bodyPost_ret (v := .tuple #[.agg #[.int .i64 0, .slice none 0 0], .bool false]) (by simp [results, Tryd.results27, go_sem, r0, r1]) rfl (by rw [HN.out]; exact FIN.out)
  | some T9 =>
    obtain rfl := hT6 T9 rfl
    go_wp2_with fail
    refine (l3Sure_any k6 n6 a6 c6 true _).mono ?_
    rintro e w7 ⟨rfl, hb7⟩
    have hb7' := below_trans HB6.out hb7
    have h7 := HH.out.1.below hb7
    have hf7 := HH.out.2.below hb7
    have q := (HOUT.out w7 hb7').2
    have r0 : w7.cell? ⟨w.heap.size + 1, 0, none⟩ = some (.int .i64 0) := by rw [cell_of_block q]; rfl
    have r1 : w7.cell? ⟨w.heap.size + 1, 1, none⟩ = some (.slice none 0 0) := by rw [cell_of_block q]; rfl
    have rz := fun o => frozen_of_block (o := o) q
    have rl := lt_of_block q
    have hs2 := HBW.out.size
    have hge : ∀ b ∈ f6, w.heap.size + 1 < b := fun b hb => by
      have h1 := (hf7.2 b hb).1
      have h2 : (((w.alloc (Obj.cells #[.int .i64 e0, .string e1, .int .i64 e2, .int .i64 e3, .slice e5 e4 e6, .int .i64 e7, .slice e9 e8 e10, .int .i64 e11, .slice e13 e12 e14] 35)).alloc (Obj.cells #[.int .i64 0, .slice none 0 0] 32))).heap.size = w.heap.size + 1 + 1 := by simp
      omega
    have FIN := hid (show MadeTB w T6 true (.returned (.tuple #[.agg #[.int .i64 k6, .slice a6 n6 c6], .bool true])) (put w7 (w.heap.size + 1) 0 [.int .i64 k6, .slice a6 n6 c6]) from
      ⟨_, f6, rfl, h7.putne (fun b hb => by have := hge b hb; omega), (hf7.putne (fun b hb => by have := hge b hb; omega)).mono (by have h2 : (((w.alloc (Obj.cells #[.int .i64 e0, .string e1, .int .i64 e2, .int .i64 e3, .slice e5 e4 e6, .int .i64 e7, .slice e9 e8 e10, .int .i64 e11, .slice e13 e12 e14] 35)).alloc (Obj.cells #[.int .i64 0, .slice none 0 0] 32))).heap.size = w.heap.size + 1 + 1 := (by simp); omega), below_put (below_trans HB0.out hb7') (by omega)⟩)
    simp only [put, Nat.zero_add] at FIN
    clear h7 hf7 hb7 hb7' q hge HB6 HZ HOUT HH HBW hs2
    simp only [sureV, if_true]
    go_wp2_with fail
    exact bodyPost_ret (v := .tuple #[.agg #[.int .i64 k6, .slice a6 n6 c6], .bool true]) (by simp [results, Tryd.results27, go_sem, r0, r1]) rfl (by rw [HN.out]; exact FIN.out)

end Go.Proofs.YtffmpjcjmffdeaaDoor

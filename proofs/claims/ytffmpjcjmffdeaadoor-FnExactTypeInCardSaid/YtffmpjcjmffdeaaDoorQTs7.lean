/- The specification's TypeIn and TypeOf. -/
import Derived.Test.YtffmpjcjmffdeaaDoorQTs6
import Derived.Test.YtffmpjcjmffdeaaDoorQG24
import Derived.Test.YtffmpjcjmffdeaaDoorQG5
import Derived.Test.YtffmpjcjmffdeaaDoorQG29
namespace Go.Proofs.YtffmpjcjmffdeaaDoor
open Go.RowKit

theorem tyInO_cnt (xs : List Bd) (t : Tm) : ((tyInO xs t).getD (.mk 0 [])).cnt ≤ 2097152 := by
  unfold tyInO
  split
  · rename_i h
    simp only [Bool.and_eq_true] at h
    cases hm : tyM xs.reverse t with
    | none => simp [Ty.cnt, cntL]
    | some u =>
      have hv := tyM_vld hm (shp_vldM h.2) (ctx_vld h.1)
      have := shp_cnt8 hv (Nat.le_refl 4)
      simp only [Option.getD_some]
      omega
  · simp [Ty.cnt, cntL]

/-- What l3Sure makes of a type and a bool. -/
def sureV (b : Bool) (v : Value) : Value := if b then v else .agg #[.int .i64 0, .slice none 0 0]

set_option maxHeartbeats 1000000 in
theorem l3Sure_any (k : Int) (n : Nat) (a : Option Addr) (c : Nat) (b : Bool) (w : World) :
    Calls Tryd.prog 57 #[.agg #[.int .i64 k, .slice a n c], .bool b] w fun e w' => e = .returned (.tuple #[sureV b (.agg #[.int .i64 k, .slice a n c]), .bool b]) ∧ Below w.heap.size w w' := by
  have HB := hid (fun (o : Obj) => (show Below w.heap.size w ((w.alloc (Obj.cells #[.int .i64 k, .slice a n c] 32)).alloc o) from ((Below.refl _ _).alloc (Nat.le_refl _) _).alloc (by simp) _))
  obtain ⟨hq, hr⟩ := two_out (Below.refl (((w.alloc (Obj.cells #[.int .i64 k, .slice a n c] 32)).alloc (Obj.cells #[.int .i64 0, .slice none 0 0] 32))).heap.size ((w.alloc (Obj.cells #[.int .i64 k, .slice a n c] 32)).alloc (Obj.cells #[.int .i64 0, .slice none 0 0] 32)))
  have x0 : (((w.alloc (Obj.cells #[.int .i64 k, .slice a n c] 32)).alloc (Obj.cells #[.int .i64 0, .slice none 0 0] 32))).cell? ⟨w.heap.size, 0, none⟩ = some (.int .i64 k) := by rw [cell_of_block hq]; rfl
  have x1 : (((w.alloc (Obj.cells #[.int .i64 k, .slice a n c] 32)).alloc (Obj.cells #[.int .i64 0, .slice none 0 0] 32))).cell? ⟨w.heap.size, 1, none⟩ = some (.slice a n c) := by rw [cell_of_block hq]; rfl
  have r0 : (((w.alloc (Obj.cells #[.int .i64 k, .slice a n c] 32)).alloc (Obj.cells #[.int .i64 0, .slice none 0 0] 32))).cell? ⟨w.heap.size + 1, 0, none⟩ = some (.int .i64 0) := by rw [cell_of_block hr]; rfl
  have r1 : (((w.alloc (Obj.cells #[.int .i64 k, .slice a n c] 32)).alloc (Obj.cells #[.int .i64 0, .slice none 0 0] 32))).cell? ⟨w.heap.size + 1, 1, none⟩ = some (.slice none 0 0) := by rw [cell_of_block hr]; rfl
  clear hq hr
  cases b
  · go_enter Tryd.func57, Tryd.ntmps57
    go_wp2_with fail
    exact bodyPost_ret (v := .tuple #[.agg #[.int .i64 0, .slice none 0 0], .bool false]) (by simp [results, Tryd.results57, go_sem]) rfl ⟨rfl, HB.out _⟩
  · go_enter Tryd.func57, Tryd.ntmps57
    go_wp2_with fail
    exact bodyPost_ret (v := .tuple #[.agg #[.int .i64 k, .slice a n c], .bool true]) (by simp [results, Tryd.results57, go_sem]) rfl ⟨rfl, HB.out _⟩

set_option maxRecDepth 100000 in
set_option maxHeartbeats 4000000 in
theorem specTypeIn (xs : List Bd) (s : Value) (fs : List Nat) (t : Tm) (v : Value) (fe : List Nat) (w : World) (hsz : t.sz ≤ 1048576) (hs : BsAt w xs s fs) (hat : t.At w v fe) :
    Calls Tryd.prog 16 #[s, v] w (MadeTB w ((tyInO xs t).getD (.mk 0 [])) (tyInO xs t).isSome) := by
  obtain ⟨e0, e1, e2, e3, e4, e5, e6, e7, e8, e9, e10, e11, e12, e13, e14, rfl⟩ := hat.agg
  have hb0 : Below w.heap.size w ((w.alloc (Obj.cells #[.int .i64 e0, .string e1, .int .i64 e2, .int .i64 e3, .slice e5 e4 e6, .int .i64 e7, .slice e9 e8 e10, .int .i64 e11, .slice e13 e12 e14] 35)).alloc (Obj.cells #[.int .i64 0, .slice none 0 0] 32)) := ((Below.refl _ _).alloc (Nat.le_refl _) _).alloc (by simp) _
  have HB0 := hid hb0
  have HOUT := hid (fun (W : World) (h : Below (((w.alloc (Obj.cells #[.int .i64 e0, .string e1, .int .i64 e2, .int .i64 e3, .slice e5 e4 e6, .int .i64 e7, .slice e9 e8 e10, .int .i64 e11, .slice e13 e12 e14] 35)).alloc (Obj.cells #[.int .i64 0, .slice none 0 0] 32))).heap.size ((w.alloc (Obj.cells #[.int .i64 e0, .string e1, .int .i64 e2, .int .i64 e3, .slice e5 e4 e6, .int .i64 e7, .slice e9 e8 e10, .int .i64 e11, .slice e13 e12 e14] 35)).alloc (Obj.cells #[.int .i64 0, .slice none 0 0] 32)) W) => two_out h)
  have HCV := hid (specCtxValid xs s fs ((w.alloc (Obj.cells #[.int .i64 e0, .string e1, .int .i64 e2, .int .i64 e3, .slice e5 e4 e6, .int .i64 e7, .slice e9 e8 e10, .int .i64 e11, .slice e13 e12 e14] 35)).alloc (Obj.cells #[.int .i64 0, .slice none 0 0] 32)) (hs.below hb0))
  have HTV := hid (fun (W : World) (h : Below (((w.alloc (Obj.cells #[.int .i64 e0, .string e1, .int .i64 e2, .int .i64 e3, .slice e5 e4 e6, .int .i64 e7, .slice e9 e8 e10, .int .i64 e11, .slice e13 e12 e14] 35)).alloc (Obj.cells #[.int .i64 0, .slice none 0 0] 32))).heap.size ((w.alloc (Obj.cells #[.int .i64 e0, .string e1, .int .i64 e2, .int .i64 e3, .slice e5 e4 e6, .int .i64 e7, .slice e9 e8 e10, .int .i64 e11, .slice e13 e12 e14] 35)).alloc (Obj.cells #[.int .i64 0, .slice none 0 0] 32)) W) => specTermValid t _ fe W hsz (hat.below (below_trans hb0 h)))
  have HTY := hid (fun (h1 : ctxOk xs = true) (h2 : vldM t = true) (W : World) (h : Below (((w.alloc (Obj.cells #[.int .i64 e0, .string e1, .int .i64 e2, .int .i64 e3, .slice e5 e4 e6, .int .i64 e7, .slice e9 e8 e10, .int .i64 e11, .slice e13 e12 e14] 35)).alloc (Obj.cells #[.int .i64 0, .slice none 0 0] 32))).heap.size ((w.alloc (Obj.cells #[.int .i64 e0, .string e1, .int .i64 e2, .int .i64 e3, .slice e5 e4 e6, .int .i64 e7, .slice e9 e8 e10, .int .i64 e11, .slice e13 e12 e14] 35)).alloc (Obj.cells #[.int .i64 0, .slice none 0 0] 32)) W) => tyC 12 t xs s _ fs fe W (shp_vldM h2) (hs.below (below_trans hb0 h)) (hat.below (below_trans hb0 h)) (fun x hx => ctx_vld h1 x (by simpa using hx)) (by have := ctx_len h1; omega))
  have HZ := hid (fun (W : World) (h : Below (((w.alloc (Obj.cells #[.int .i64 e0, .string e1, .int .i64 e2, .int .i64 e3, .slice e5 e4 e6, .int .i64 e7, .slice e9 e8 e10, .int .i64 e11, .slice e13 e12 e14] 35)).alloc (Obj.cells #[.int .i64 0, .slice none 0 0] 32))).heap.size ((w.alloc (Obj.cells #[.int .i64 e0, .string e1, .int .i64 e2, .int .i64 e3, .slice e5 e4 e6, .int .i64 e7, .slice e9 e8 e10, .int .i64 e11, .slice e13 e12 e14] 35)).alloc (Obj.cells #[.int .i64 0, .slice none 0 0] 32)) W) => (show MadeTB w (.mk 0 []) false (.returned (.tuple #[.agg #[.int .i64 0, .slice none 0 0], .bool false])) (put W (w.heap.size + 1) 0 [.int .i64 0, .slice none 0 0]) from
    ⟨_, [], rfl, no_ty _, Fresh.nil _ _, below_put (below_trans hb0 h) (by omega)⟩))
  obtain ⟨z0, z1, z2, z3, z4, z5, z6, z7, z8⟩ := cells9 (two_out (Below.refl (((w.alloc (Obj.cells #[.int .i64 e0, .string e1, .int .i64 e2, .int .i64 e3, .slice e5 e4 e6, .int .i64 e7, .slice e9 e8 e10, .int .i64 e11, .slice e13 e12 e14] 35)).alloc (Obj.cells #[.int .i64 0, .slice none 0 0] 32))).heap.size ((w.alloc (Obj.cells #[.int .i64 e0, .string e1, .int .i64 e2, .int .i64 e3, .slice e5 e4 e6, .int .i64 e7, .slice e9 e8 e10, .int .i64 e11, .slice e13 e12 e14] 35)).alloc (Obj.cells #[.int .i64 0, .slice none 0 0] 32)))).1
  have HRES := hid (show ctxOk xs = false → tyInO xs t = none from fun h => by simp [tyInO, h])
  have HRES2 := hid (show vldM t = false → tyInO xs t = none from fun h => by simp [tyInO, h])
  have HRES3 := hid (show ctxOk xs = true → vldM t = true → tyInO xs t = tyM xs.reverse t from fun h h' => by simp [tyInO, h, h'])
  clear hs hat hb0
  go_enter Tryd.func16, Tryd.ntmps16
  go_wp2_with fail
  refine HCV.out.mono ?_
  rintro e w1 ⟨rfl, hb1⟩
  cases hcv : ctxOk xs with
  | false =>
    have FIN := hid (HZ.out w1 hb1)
    simp only [put, Nat.zero_add] at FIN
    have q := (HOUT.out w1 hb1).2
    have r0 : w1.cell? ⟨w.heap.size + 1, 0, none⟩ = some (.int .i64 0) := by rw [cell_of_block q]; rfl
    have r1 : w1.cell? ⟨w.heap.size + 1, 1, none⟩ = some (.slice none 0 0) := by rw [cell_of_block q]; rfl
    have rz := fun o => frozen_of_block (o := o) q
    have rl := lt_of_block q
    have HN := hid (HRES.out hcv)
    clear q hb1 HZ HOUT HCV HTV HTY HRES HRES2 HRES3 hcv
    go_wp2_with fail
    exact bodyPost_ret (v := .tuple #[.agg #[.int .i64 0, .slice none 0 0], .bool false]) (by simp [results, Tryd.results16, go_sem, r0, r1]) rfl (by rw [HN.out]; exact FIN.out)
  | true =>
  replace z0 := cell_keep z0 hb1
  replace z1 := cell_keep z1 hb1
  replace z2 := cell_keep z2 hb1
  replace z3 := cell_keep z3 hb1
  replace z4 := cell_keep z4 hb1
  replace z5 := cell_keep z5 hb1
  replace z6 := cell_keep z6 hb1
  replace z7 := cell_keep z7 hb1
  replace z8 := cell_keep z8 hb1
  go_wp2_with fail
  refine (HTV.out w1 hb1).mono ?_
  rintro e w2 ⟨rfl, hb2⟩
  have hb12 := below_trans hb1 hb2
  cases htv : vldM t with
  | false =>
    have FIN := hid (HZ.out w2 hb12)
    simp only [put, Nat.zero_add] at FIN
    have q := (HOUT.out w2 hb12).2
    have r0 : w2.cell? ⟨w.heap.size + 1, 0, none⟩ = some (.int .i64 0) := by rw [cell_of_block q]; rfl
    have r1 : w2.cell? ⟨w.heap.size + 1, 1, none⟩ = some (.slice none 0 0) := by rw [cell_of_block q]; rfl
    have rz := fun o => frozen_of_block (o := o) q
    have rl := lt_of_block q
    have HN := hid (HRES2.out htv)
    clear q hb1 hb2 hb12 HZ HOUT HCV HTV HTY HRES HRES2 HRES3 hcv htv z0 z1 z2 z3 z4 z5 z6 z7 z8
    go_wp2_with fail
    exact bodyPost_ret (v := .tuple #[.agg #[.int .i64 0, .slice none 0 0], .bool false]) (by simp [results, Tryd.results16, go_sem, r0, r1]) rfl (by rw [HN.out]; exact FIN.out)
  | true =>
  have HN := hid (HRES3.out hcv htv)
  have HT := hid (HTY.out hcv htv w2 hb12)
  have HBW := hid hb12
  replace z0 := cell_keep z0 hb2
  replace z1 := cell_keep z1 hb2
  replace z2 := cell_keep z2 hb2
  replace z3 := cell_keep z3 hb2
  replace z4 := cell_keep z4 hb2
  replace z5 := cell_keep z5 hb2
  replace z6 := cell_keep z6 hb2
  replace z7 := cell_keep z7 hb2
  replace z8 := cell_keep z8 hb2
  generalize tyM xs.reverse t = TO at *
  clear hb1 hb2 hb12 hcv htv HTV HCV HTY HRES HRES2 HRES3
  go_wp2_with fail
  refine HT.out.mono ?_
  rintro e w6 ⟨T6, hT6, v6, f6, rfl, h6, hf6, hb6⟩
  obtain ⟨k6, n6, a6, c6, rfl⟩ := h6.agg
  clear z0 z1 z2 z3 z4 z5 z6 z7 z8 HT
  have hb6' := below_trans HBW.out hb6
  have HB6 := hid hb6'
  have HH := hid (And.intro h6 hf6)
  clear h6 hf6 hb6 hb6'
  cases TO with
  | none =>
    go_wp2_with fail
    refine (l3Sure_any k6 n6 a6 c6 false _).mono ?_
    rintro e w7 ⟨rfl, hb7⟩
    have hb7' := below_trans HB6.out hb7
    have FIN := hid (HZ.out w7 hb7')
    simp only [put, Nat.zero_add] at FIN
    have q := (HOUT.out w7 hb7').2
    have r0 : w7.cell? ⟨w.heap.size + 1, 0, none⟩ = some (.int .i64 0) := by rw [cell_of_block q]; rfl
    have r1 : w7.cell? ⟨w.heap.size + 1, 1, none⟩ = some (.slice none 0 0) := by rw [cell_of_block q]; rfl
    have rz := fun o => frozen_of_block (o := o) q
    have rl := lt_of_block q
    clear q hb7 hb7' HZ HOUT HBW HB6 HH
    simp only [sureV, Bool.false_eq_true, if_false]
    go_wp2_with fail
    exact bodyPost_ret (v := .tuple #[.agg #[.int .i64 0, .slice none 0 0], .bool false]) (by simp [results, Tryd.results16, go_sem, r0, r1]) rfl (by rw [HN.out]; exact FIN.out)
  | some T9 =>
    obtain rfl := hT6 T9 rfl
    go_wp2_with fail
    refine (l3Sure_any k6 n6 a6 c6 true _).mono ?_
    rintro e w7 ⟨rfl, hb7⟩
    have hb7' := below_trans HB6.out hb7
    have h7 := HH.out.1.below hb7
    have hf7 := HH.out.2.below hb7
    have q := (HOUT.out w7 hb7').2
    have r0 : w7.cell? ⟨w.heap.size + 1, 0, none⟩ = some (.int .i64 0) := by rw [cell_of_block q]; rfl
    have r1 : w7.cell? ⟨w.heap.size + 1, 1, none⟩ = some (.slice none 0 0) := by rw [cell_of_block q]; rfl
    have rz := fun o => frozen_of_block (o := o) q
    have rl := lt_of_block q
    have hs2 := HBW.out.size
    have hge : ∀ b ∈ f6, w.heap.size + 1 < b := fun b hb => by
      have h1 := (hf7.2 b hb).1
      have h2 : (((w.alloc (Obj.cells #[.int .i64 e0, .string e1, .int .i64 e2, .int .i64 e3, .slice e5 e4 e6, .int .i64 e7, .slice e9 e8 e10, .int .i64 e11, .slice e13 e12 e14] 35)).alloc (Obj.cells #[.int .i64 0, .slice none 0 0] 32))).heap.size = w.heap.size + 1 + 1 := by simp
      omega
    have FIN := hid (show MadeTB w T6 true (.returned (.tuple #[.agg #[.int .i64 k6, .slice a6 n6 c6], .bool true])) (put w7 (w.heap.size + 1) 0 [.int .i64 k6, .slice a6 n6 c6]) from
      ⟨_, f6, rfl, h7.putne (fun b hb => by have := hge b hb; omega), (hf7.putne (fun b hb => by have := hge b hb; omega)).mono (by have h2 : (((w.alloc (Obj.cells #[.int .i64 e0, .string e1, .int .i64 e2, .int .i64 e3, .slice e5 e4 e6, .int .i64 e7, .slice e9 e8 e10, .int .i64 e11, .slice e13 e12 e14] 35)).alloc (Obj.cells #[.int .i64 0, .slice none 0 0] 32))).heap.size = w.heap.size + 1 + 1 := (by simp); omega), below_put (below_trans HB0.out hb7') (by omega)⟩)
    simp only [put, Nat.zero_add] at FIN
    clear h7 hf7 hb7 hb7' q hge HB6 HZ HOUT HH HBW hs2
    simp only [sureV, if_true]
    go_wp2_with fail
    exact bodyPost_ret (v := .tuple #[.agg #[.int .i64 k6, .slice a6 n6 c6], .bool true]) (by simp [results, Tryd.results16, go_sem, r0, r1]) rfl (by rw [HN.out]; exact FIN.out)

set_option maxHeartbeats 1000000 in
theorem specTypeOf (t : Tm) (v : Value) (fe : List Nat) (w : World) (hsz : t.sz ≤ 1048576) (hat : t.At w v fe) :
    Calls Tryd.prog 25 #[v] w (MadeTB w ((tyInO [] t).getD (.mk 0 [])) (tyInO [] t).isSome) := by
  obtain ⟨e0, e1, e2, e3, e4, e5, e6, e7, e8, e9, e10, e11, e12, e13, e14, rfl⟩ := hat.agg
  have hb0 : Below w.heap.size w ((w.alloc (Obj.cells #[.int .i64 e0, .string e1, .int .i64 e2, .int .i64 e3, .slice e5 e4 e6, .int .i64 e7, .slice e9 e8 e10, .int .i64 e11, .slice e13 e12 e14] 35)).alloc (Obj.cells #[.int .i64 0, .slice none 0 0] 32)) := ((Below.refl _ _).alloc (Nat.le_refl _) _).alloc (by simp) _
  obtain ⟨hB, hq⟩ := two_out (Below.refl (((w.alloc (Obj.cells #[.int .i64 e0, .string e1, .int .i64 e2, .int .i64 e3, .slice e5 e4 e6, .int .i64 e7, .slice e9 e8 e10, .int .i64 e11, .slice e13 e12 e14] 35)).alloc (Obj.cells #[.int .i64 0, .slice none 0 0] 32))).heap.size ((w.alloc (Obj.cells #[.int .i64 e0, .string e1, .int .i64 e2, .int .i64 e3, .slice e5 e4 e6, .int .i64 e7, .slice e9 e8 e10, .int .i64 e11, .slice e13 e12 e14] 35)).alloc (Obj.cells #[.int .i64 0, .slice none 0 0] 32)))
  obtain ⟨z0, z1, z2, z3, z4, z5, z6, z7, z8⟩ := cells9 hB
  have HT := hid (specTypeIn [] (.slice none 0 0) [] t _ fe ((w.alloc (Obj.cells #[.int .i64 e0, .string e1, .int .i64 e2, .int .i64 e3, .slice e5 e4 e6, .int .i64 e7, .slice e9 e8 e10, .int .i64 e11, .slice e13 e12 e14] 35)).alloc (Obj.cells #[.int .i64 0, .slice none 0 0] 32)) hsz (.inl ⟨rfl, rfl, _, _, rfl⟩) (hat.below hb0))
  have HB0 := hid hb0
  generalize (tyInO [] t).getD (.mk 0 []) = T0 at *
  generalize (tyInO [] t).isSome = bb at *
  clear hat hb0 hB hq
  go_enter Tryd.func25, Tryd.ntmps25
  go_wp2_with fail
  refine HT.out.mono ?_
  rintro e w7 ⟨v7, f7, rfl, h7, hf7, hb7⟩
  obtain ⟨k7, n7, a7, c7, rfl⟩ := h7.agg
  have q := (two_out hb7).2
  have s0 : w7.cell? ⟨w.heap.size + 1, 0, none⟩ = some (.int .i64 0) := by rw [cell_of_block q]; rfl
  have s1 : w7.cell? ⟨w.heap.size + 1, 1, none⟩ = some (.slice none 0 0) := by rw [cell_of_block q]; rfl
  have sz := fun o => frozen_of_block (o := o) q
  have sl := lt_of_block q
  have hge : ∀ b ∈ f7, w.heap.size + 1 < b := fun b hb => by
    have h1 := (hf7.2 b hb).1
    have h2 : (((w.alloc (Obj.cells #[.int .i64 e0, .string e1, .int .i64 e2, .int .i64 e3, .slice e5 e4 e6, .int .i64 e7, .slice e9 e8 e10, .int .i64 e11, .slice e13 e12 e14] 35)).alloc (Obj.cells #[.int .i64 0, .slice none 0 0] 32))).heap.size = w.heap.size + 1 + 1 := by simp
    omega
  have FIN := hid (show MadeTB w T0 bb (.returned (.tuple #[.agg #[.int .i64 k7, .slice a7 n7 c7], .bool bb])) (put w7 (w.heap.size + 1) 0 [.int .i64 k7, .slice a7 n7 c7]) from
    ⟨_, f7, rfl, h7.putne (fun b hb => by have := hge b hb; omega), (hf7.putne (fun b hb => by have := hge b hb; omega)).mono (by have h2 : (((w.alloc (Obj.cells #[.int .i64 e0, .string e1, .int .i64 e2, .int .i64 e3, .slice e5 e4 e6, .int .i64 e7, .slice e9 e8 e10, .int .i64 e11, .slice e13 e12 e14] 35)).alloc (Obj.cells #[.int .i64 0, .slice none 0 0] 32))).heap.size = w.heap.size + 1 + 1 := (by simp); omega), below_put (below_trans HB0.out hb7) (by omega)⟩)
  simp only [put, Nat.zero_add] at FIN
  clear h7 hf7 hb7 q hge HT HB0
  go_wp2_with fail
  exact bodyPost_ret (v := .tuple #[.agg #[.int .i64 k7, .slice a7 n7 c7], .bool bb]) (by simp [results, Tryd.results25, go_sem, s0, s1]) rfl FIN.out
end Go.Proofs.YtffmpjcjmffdeaaDoor

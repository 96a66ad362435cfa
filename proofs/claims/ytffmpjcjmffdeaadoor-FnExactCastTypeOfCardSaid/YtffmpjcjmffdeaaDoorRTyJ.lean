/- The program's CastTypeOf. -/
import Derived.Test.YtffmpjcjmffdeaaDoorRTyE
import Derived.Test.YtffmpjcjmffdeaaDoorRCkE
import Derived.Test.YtffmpjcjmffdeaaDoorRC4
namespace Go.Proofs.YtffmpjcjmffdeaaDoor
open Go.RowKit

/-- The type of a term with casts, if it is valid. -/
def tyXO (t : Tm) : Option Ty := if vldC t = true then tyX [] t else none

theorem shp_vldC {t : Tm} (h : vldC t = true) : shpC 40 t = true := by
  simp only [vldC, Bool.and_eq_true] at h
  exact h.1

mutual
theorem kOk_of_shpC : ∀ (t : Tm) (d : Nat), shpC d t = true → kOk t = true
  | .mk k nm num ty fr lb ts, d, h => by
    cases d with
    | zero => simp [shpC] at h
    | succ d =>
      simp only [shpC, Bool.and_eq_true, List.all_eq_true] at h
      simp only [kOk, Bool.and_eq_true]
      exact ⟨h.1.1.1, kOkL_of_shpC ts d h.2⟩
theorem kOkL_of_shpC : ∀ (ts : List Tm) (d : Nat), (∀ t ∈ ts, shpC d t = true) → kOkL ts = true
  | [], _, _ => rfl
  | t :: ts, d, h => by
    simp only [kOkL, Bool.and_eq_true]
    exact ⟨kOk_of_shpC t d (h t (by simp)), kOkL_of_shpC ts d fun u hu => h u (by simp [hu])⟩
end

theorem tyXO_cnt (t : Tm) : ((tyXO t).getD (.mk 0 [])).cnt ≤ 2097152 := by
  unfold tyXO
  split
  · rename_i h
    obtain ⟨o, -, ho, hv⟩ := chM_ex t 40 [] 0 (shp_vldC h) (fun x hx => by cases hx)
    cases hm : tyX [] t with
    | none => simp [Ty.cnt, cntL]
    | some u =>
      have := shp_cnt8 (hv u hm) (Nat.le_refl 4)
      simp only [Option.getD_some]
      omega
  · simp [Ty.cnt, cntL]

set_option maxRecDepth 100000 in
set_option maxHeartbeats 4000000 in
theorem implCastTypeOf (t : Tm) (v : Value) (fe : List Nat) (w : World) (hF : Forms w) (hat : t.At w v fe) (hfz : ∀ b ∈ fe, ∀ o, w.frozen? ⟨b, o, none⟩ = false) :
    Calls Tryd.prog 28 #[v] w (MadeTB w ((tyXO t).getD (.mk 0 [])) (tyXO t).isSome) := by
  obtain ⟨e0, e1, e2, e3, e4, e5, e6, e7, e8, e9, e10, e11, e12, e13, e14, rfl⟩ := hat.agg
  have hlt := hat.lt
  have hb0 : Below w.heap.size w ((w.alloc (Obj.cells #[.int .i64 e0, .string e1, .int .i64 e2, .int .i64 e3, .slice e5 e4 e6, .int .i64 e7, .slice e9 e8 e10, .int .i64 e11, .slice e13 e12 e14] 35)).alloc (Obj.cells #[.int .i64 0, .slice none 0 0] 32)) := ((Below.refl _ _).alloc (Nat.le_refl _) _).alloc (by simp) _
  have HB0 := hid hb0
  have HOUT := hid (fun (W : World) (h : Below (((w.alloc (Obj.cells #[.int .i64 e0, .string e1, .int .i64 e2, .int .i64 e3, .slice e5 e4 e6, .int .i64 e7, .slice e9 e8 e10, .int .i64 e11, .slice e13 e12 e14] 35)).alloc (Obj.cells #[.int .i64 0, .slice none 0 0] 32))).heap.size ((w.alloc (Obj.cells #[.int .i64 e0, .string e1, .int .i64 e2, .int .i64 e3, .slice e5 e4 e6, .int .i64 e7, .slice e9 e8 e10, .int .i64 e11, .slice e13 e12 e14] 35)).alloc (Obj.cells #[.int .i64 0, .slice none 0 0] 32)) W) => two_out h)
  have HTV := hid (implCastValid t _ fe ((w.alloc (Obj.cells #[.int .i64 e0, .string e1, .int .i64 e2, .int .i64 e3, .slice e5 e4 e6, .int .i64 e7, .slice e9 e8 e10, .int .i64 e11, .slice e13 e12 e14] 35)).alloc (Obj.cells #[.int .i64 0, .slice none 0 0] 32)) (hF.below hb0) (hat.below hb0))
  have HAT := hid (fun (W : World) (h : Below (((w.alloc (Obj.cells #[.int .i64 e0, .string e1, .int .i64 e2, .int .i64 e3, .slice e5 e4 e6, .int .i64 e7, .slice e9 e8 e10, .int .i64 e11, .slice e13 e12 e14] 35)).alloc (Obj.cells #[.int .i64 0, .slice none 0 0] 32))).heap.size ((w.alloc (Obj.cells #[.int .i64 e0, .string e1, .int .i64 e2, .int .i64 e3, .slice e5 e4 e6, .int .i64 e7, .slice e9 e8 e10, .int .i64 e11, .slice e13 e12 e14] 35)).alloc (Obj.cells #[.int .i64 0, .slice none 0 0] 32)) W) => hat.below (below_trans hb0 h))
  have HGD := hid (fun (W : World) (h : Below (((w.alloc (Obj.cells #[.int .i64 e0, .string e1, .int .i64 e2, .int .i64 e3, .slice e5 e4 e6, .int .i64 e7, .slice e9 e8 e10, .int .i64 e11, .slice e13 e12 e14] 35)).alloc (Obj.cells #[.int .i64 0, .slice none 0 0] 32))).heap.size ((w.alloc (Obj.cells #[.int .i64 e0, .string e1, .int .i64 e2, .int .i64 e3, .slice e5 e4 e6, .int .i64 e7, .slice e9 e8 e10, .int .i64 e11, .slice e13 e12 e14] 35)).alloc (Obj.cells #[.int .i64 0, .slice none 0 0] 32)) W) => (show ∀ b ∈ fe ++ [], Gd true none W b from fun b hb => by
    have hb' : b ∈ fe := by simpa using hb
    exact (show Gd true none w b from ⟨fun _ o => hfz b hb' o, nofun⟩).bo (hlt b hb') (Bo.of_below (below_trans hb0 h))))
  have HZ := hid (fun (W : World) (h : Below (((w.alloc (Obj.cells #[.int .i64 e0, .string e1, .int .i64 e2, .int .i64 e3, .slice e5 e4 e6, .int .i64 e7, .slice e9 e8 e10, .int .i64 e11, .slice e13 e12 e14] 35)).alloc (Obj.cells #[.int .i64 0, .slice none 0 0] 32))).heap.size ((w.alloc (Obj.cells #[.int .i64 e0, .string e1, .int .i64 e2, .int .i64 e3, .slice e5 e4 e6, .int .i64 e7, .slice e9 e8 e10, .int .i64 e11, .slice e13 e12 e14] 35)).alloc (Obj.cells #[.int .i64 0, .slice none 0 0] 32)) W) => (show MadeTB w (.mk 0 []) false (.returned (.tuple #[.agg #[.int .i64 0, .slice none 0 0], .bool false])) (put W (w.heap.size + 1) 0 [.int .i64 0, .slice none 0 0]) from
    ⟨_, [], rfl, no_ty _, Fresh.nil _ _, below_put (below_trans hb0 h) (by omega)⟩))
  obtain ⟨z0, z1, z2, z3, z4, z5, z6, z7, z8⟩ := cells9 (two_out (Below.refl (((w.alloc (Obj.cells #[.int .i64 e0, .string e1, .int .i64 e2, .int .i64 e3, .slice e5 e4 e6, .int .i64 e7, .slice e9 e8 e10, .int .i64 e11, .slice e13 e12 e14] 35)).alloc (Obj.cells #[.int .i64 0, .slice none 0 0] 32))).heap.size ((w.alloc (Obj.cells #[.int .i64 e0, .string e1, .int .i64 e2, .int .i64 e3, .slice e5 e4 e6, .int .i64 e7, .slice e9 e8 e10, .int .i64 e11, .slice e13 e12 e14] 35)).alloc (Obj.cells #[.int .i64 0, .slice none 0 0] 32)))).1
  have HRES2 := hid (show vldC t = false → tyXO t = none from fun h => by simp [tyXO, h])
  have HRES3 := hid (show vldC t = true → tyXO t = tyX [] t from fun h => by simp [tyXO, h])
  clear hat hF hb0 hfz hlt
  go_enter Tryd.func28, Tryd.ntmps28
  go_wp2_with fail
  refine HTV.out.mono ?_
  rintro e w2 ⟨rfl, hb12⟩
  cases htv : vldC t with
  | false =>
    have FIN := hid (HZ.out w2 hb12)
    simp only [put, Nat.zero_add] at FIN
    have q := (HOUT.out w2 hb12).2
    have r0 : w2.cell? ⟨w.heap.size + 1, 0, none⟩ = some (.int .i64 0) := by rw [cell_of_block q]; rfl
    have r1 : w2.cell? ⟨w.heap.size + 1, 1, none⟩ = some (.slice none 0 0) := by rw [cell_of_block q]; rfl
    have rz := fun o => frozen_of_block (o := o) q
    have rl := lt_of_block q
    have HN := hid (HRES2.out htv)
    clear q hb12 HZ HOUT HTV HAT HGD HRES2 HRES3 htv z0 z1 z2 z3 z4 z5 z6 z7 z8
    go_wp2_with fail
    exact bodyPost_ret (v := .tuple #[.agg #[.int .i64 0, .slice none 0 0], .bool false]) (by simp [results, Tryd.results28, go_sem, r0, r1]) rfl (by rw [HN.out]; exact FIN.out)
  | true =>
  have HN := hid (HRES3.out htv)
  obtain ⟨o, hch, hom, hov⟩ := chM_ex t 40 [] 0 (shp_vldC htv) (fun x hx => by cases hx)
  have HOM := hid (And.intro hom hov)
  have HC := hid (check_exact t [] none [] _ fe w2 0 ⟨rfl, rfl⟩ (HAT.out w2 hb12) (kOk_of_shpC t 40 (shp_vldC htv)) (HGD.out w2 hb12) (ul_none _) trivial)
  rw [hch] at HC
  have HB12 := hid hb12
  have HBW := hid hb12
  generalize tyX [] t = TO at *
  obtain ⟨z0, z1, z2, z3, z4, z5, z6, z7, z8⟩ := cells9 (HOUT.out w2 hb12).1
  clear hom hov hch hb12 htv HTV HRES2 HRES3 HAT HGD
  cases o with
  | none =>
    obtain rfl : TO = none := HOM.out.1.symm
    go_wp2_with fail
    refine HC.out.mono ?_
    rintro e w6 ⟨e', t', r0, r1, r2, r3, r4, r5, r6, r7, r8, r9, r10, r11, r12, r13, r14, kk, nn, aa, cc, g1, g2, rfl, -, -, -, -, hb6, -⟩
    have hb6' := below_trans HBW.out hb6.below
    have FIN0 := HZ.out w6 hb6'
    have q := (HOUT.out w6 hb6').2
    have s0 : w6.cell? ⟨w.heap.size + 1, 0, none⟩ = some (.int .i64 0) := by rw [cell_of_block q]; rfl
    have s1 : w6.cell? ⟨w.heap.size + 1, 1, none⟩ = some (.slice none 0 0) := by rw [cell_of_block q]; rfl
    have sz := fun o => frozen_of_block (o := o) q
    have sl := lt_of_block q
    have sl2 : w.heap.size < w6.heap.size := by omega
    have FIN := hid (show MadeTB w (.mk 0 []) false (.returned (.tuple #[.agg #[.int .i64 0, .slice none 0 0], .bool false])) (((put w6 (w.heap.size + 1) 0 [.int .i64 0, .slice none 0 0]).alloc (Obj.cells #[.int .i64 r0, .string r1, .int .i64 r2, .int .i64 r3, .slice r5 r4 r6, .int .i64 r7, .slice r9 r8 r10, .int .i64 r11, .slice r13 r12 r14] 35)).alloc (Obj.cells #[.int .i64 kk, .slice aa nn cc] 32)) from by
      obtain ⟨v, f, he, h1, h2, h3⟩ := FIN0
      have hx := (((Below.refl _ (put w6 (w.heap.size + 1) 0 [.int .i64 0, .slice none 0 0])).alloc (Nat.le_refl _) (Obj.cells #[.int .i64 r0, .string r1, .int .i64 r2, .int .i64 r3, .slice r5 r4 r6, .int .i64 r7, .slice r9 r8 r10, .int .i64 r11, .slice r13 r12 r14] 35)).alloc (by simp) (Obj.cells #[.int .i64 kk, .slice aa nn cc] 32))
      exact ⟨v, f, he, h1.below hx, h2.below hx, below_trans h3 hx⟩)
    simp only [put, Nat.zero_add] at FIN
    clear hb6 hb6' FIN0 q HZ HOUT HC HBW HB12 HOM
    go_wp2_with fail
    exact bodyPost_ret (v := .tuple #[.agg #[.int .i64 0, .slice none 0 0], .bool false]) (by simp [results, Tryd.results28, go_sem, s0, s1, sl, sl2]) rfl (by rw [HN.out]; exact FIN.out)
  | some pp =>
    obtain ⟨e9', t9⟩ := pp
    obtain rfl : TO = some t9 := HOM.out.1.symm
    have HV := hid (HOM.out.2 t9 rfl)
    go_wp2_with fail
    refine HC.out.mono ?_
    rintro e w6 ⟨e', t', r0, r1, r2, r3, r4, r5, r6, r7, r8, r9, r10, r11, r12, r13, r14, kk, nn, aa, cc, g1, g2, rfl, -, hT, hp, -, hb6, -⟩
    have hpp := hp _ rfl
    simp only [Prod.mk.injEq] at hpp
    obtain ⟨-, rfl⟩ := hpp
    have hb6' := below_trans HBW.out hb6.below
    have hx := (((Below.refl _ w6).alloc (Nat.le_refl _) (Obj.cells #[.int .i64 r0, .string r1, .int .i64 r2, .int .i64 r3, .slice r5 r4 r6, .int .i64 r7, .slice r9 r8 r10, .int .i64 r11, .slice r13 r12 r14] 35)).alloc (by simp) (Obj.cells #[.int .i64 kk, .slice aa nn cc] 32))
    have HCP := hid (copyType_any t9 _ g2 _ (hT.below hx) (wf_of_vld HV.out))
    have HB6 := hid (below_trans hb6' hx)
    clear hb6 hb6' hx hT hp HC HBW
    go_wp2_with fail
    refine HCP.out.mono ?_
    rintro e w7 ⟨v7, f7, rfl, h7, hf7, hb7⟩
    obtain ⟨k7, n7, a7, c7, rfl⟩ := h7.agg
    have hb7' := below_trans HB6.out hb7
    have hs6 := HB6.out.size
    have q := (HOUT.out w7 hb7').2
    have s0 : w7.cell? ⟨w.heap.size + 1, 0, none⟩ = some (.int .i64 0) := by rw [cell_of_block q]; rfl
    have s1 : w7.cell? ⟨w.heap.size + 1, 1, none⟩ = some (.slice none 0 0) := by rw [cell_of_block q]; rfl
    have sz := fun o => frozen_of_block (o := o) q
    have sl := lt_of_block q
    have hge : ∀ b ∈ f7, w.heap.size + 1 < b := fun b hb => by
      have h1 := (hf7.2 b hb).1
      have h2 : (((w.alloc (Obj.cells #[.int .i64 e0, .string e1, .int .i64 e2, .int .i64 e3, .slice e5 e4 e6, .int .i64 e7, .slice e9 e8 e10, .int .i64 e11, .slice e13 e12 e14] 35)).alloc (Obj.cells #[.int .i64 0, .slice none 0 0] 32))).heap.size = w.heap.size + 1 + 1 := by simp
      omega
    have FIN := hid (show MadeTB w t9 true (.returned (.tuple #[.agg #[.int .i64 k7, .slice a7 n7 c7], .bool true])) (put w7 (w.heap.size + 1) 0 [.int .i64 k7, .slice a7 n7 c7]) from
      ⟨_, f7, rfl, h7.putne (fun b hb => by have := hge b hb; omega), (hf7.putne (fun b hb => by have := hge b hb; omega)).mono (by have h2 : (((w.alloc (Obj.cells #[.int .i64 e0, .string e1, .int .i64 e2, .int .i64 e3, .slice e5 e4 e6, .int .i64 e7, .slice e9 e8 e10, .int .i64 e11, .slice e13 e12 e14] 35)).alloc (Obj.cells #[.int .i64 0, .slice none 0 0] 32))).heap.size = w.heap.size + 1 + 1 := (by simp); omega), below_put (below_trans HB0.out hb7') (by omega)⟩)
    simp only [put, Nat.zero_add] at FIN
    clear h7 hf7 hb7 hb7' hs6 q hge HCP HB6 HZ HOUT HB12 HOM
    go_wp2_with fail
    exact bodyPost_ret (v := .tuple #[.agg #[.int .i64 k7, .slice a7 n7 c7], .bool true]) (by simp [results, Tryd.results28, go_sem, s0, s1]) rfl (by rw [HN.out]; exact FIN.out)


end Go.Proofs.YtffmpjcjmffdeaaDoor
